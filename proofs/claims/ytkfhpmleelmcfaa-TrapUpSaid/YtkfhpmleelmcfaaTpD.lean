/- Layer 14 (trap): the hart that comes back, by the document; it stays legal; there and back. Prepared ahead. -/
import Derived.Test.YtkfhpmleelmcfaaTpC
namespace Go.Proofs.Ytkfhpmleelmcfaa
open Go.RowKit
set_option linter.unusedVariables false
set_option maxRecDepth 100000

/-- MPP, as a number. -/
def mppZ (s : Int) : Nat := (if bitZ s 11 then 1 else 0) + (if bitZ s 12 then 2 else 0)
def privM (s : Int) : Int := if mppZ s = 1 ∨ mppZ s = 3 then (mppZ s : Int) else 0
def vM (s : Int) : Bool := mppZ s != 3 && bitZ s 39
def stMr (s : Int) : Int :=
  if mppZ s = 3 then withZ (withZ (withZ (withZ (withZ s 3 (bitZ s 7)) 7 true) 11 false) 12 false) 39 false
  else withZ (withZ (withZ (withZ (withZ (withZ s 3 (bitZ s 7)) 7 true) 11 false) 12 false) 39 false) 17 false
def mretZ (t : HS) : HS := ((t.put 0 (t.n 46)).put 38 (stMr (t.n 38))).mode (privM (t.n 38)) (vM (t.n 38)) t.wait
def stSr (s : Int) : Int := withZ (withZ (withZ s 1 (bitZ s 5)) 5 true) 8 false
def privS (s : Int) : Int := if bitZ s 8 then 1 else 0
def sretZ (t : HS) : HS :=
  if t.v then (((t.put 0 (t.n 71)).put 68 (stSr (t.n 68))).put 38 (withZ (t.n 38) 17 false)).mode (privS (t.n 68)) true t.wait
  else (((t.put 0 (t.n 54)).put 38 (withZ (stSr (t.n 38)) 17 false)).put 58 (withZ (t.n 58) 7 false)).mode (privS (t.n 38)) (bitZ (t.n 58) 7) t.wait
theorem mpp_lt (s : Int) : mppZ s < 4 := by unfold mppZ; split <;> split <;> omega
theorem privM_is (s : Int) : privM s = 0 ∨ privM s = 1 ∨ privM s = 3 := by
  have := mpp_lt s
  unfold privM; split
  · rename_i h; rcases h with h | h <;> rw [h] <;> simp
  · exact .inl rfl
theorem vM_not {s : Int} (h : vM s = true) : privM s ≠ 3 := by
  unfold vM at h; unfold privM
  rw [Bool.and_eq_true, bne_iff_ne] at h
  split
  · rename_i h2; rcases h2 with h2 | h2
    · rw [h2]; decide
    · exact absurd h2 h.1
  · decide
theorem privS_is (s : Int) : privS s = 0 ∨ privS s = 1 ∨ privS s = 3 := by unfold privS; split <;> simp
theorem privS_not (s : Int) : privS s ≠ 3 := by unfold privS; split <;> decide
theorem mul_pc {x : Int} (hx : Out x 18446744073709551612 0) (hi : In64 x) : bits .andNot .u64 x 3 = x := by
  rw [bits_andNot, show (V x &&& ~~~ V 3) = V x from ext64 fun i hil => ?_, U_V hi]
  rw [BitVec.getLsbD_and, BitVec.getLsbD_not, decide_eq_true hil, Bool.true_and]
  have h3 := three i hil
  rw [decide_eq_true hil, Bool.true_and] at h3
  cases c : (V 3).getLsbD i with
  | false => simp
  | true =>
    rw [c] at h3
    have := hx i hil h3
    rw [this]; simp [V_zero]
theorem out_stMr {s : Int} (h : Out s (mkF 0) (seF 0)) : Out (stMr s) (mkF 0) (seF 0) := by
  have h5 := ((((h.withB (k := 3) (by omega) (mk_st 3 (by omega)) (bitZ s 7)).withB (k := 7) (by omega) (mk_st 7 (by omega)) true).withB (k := 11) (by omega) (mk_st 11 (by omega)) false).withB (k := 12) (by omega) (mk_st 12 (by omega)) false).withB (k := 39) (by omega) (mk_st 39 (by omega)) false
  unfold stMr; split
  · exact h5
  · exact h5.withB (by omega) (mk_st 17 (by omega)) _
theorem bits_stMr (s : Int) : bitZ (stMr s) 11 = false ∧ bitZ (stMr s) 12 = false ∧ bitZ (stMr s) 3 = bitZ s 7 := by
  unfold stMr
  split <;> refine ⟨?_, ?_, ?_⟩ <;> simp (disch := omega) [bit_with]
theorem mode_stMr (s : Int) : noModeB (stMr s) = false := by
  obtain ⟨h1, h2, _⟩ := bits_stMr s
  rw [noMode_bits, h1, h2]; rfl
theorem legal_mret {t : HS} (ok : HOk t) (h : Lgl t) : Lgl (mretZ t) := by
  unfold mretZ
  refine Lgl.modeP (Lgl.st (Lgl.pcP h ?_) (out_stMr (out_of h 0 38 (by omega) (by decide +kernel))) (mode_stMr _)) (privM_is _) (fun e => vM_not e)
  refine mul_pc ?_ (ok.n 46)
  have o := out_of h 7 46 (by omega) (by decide +kernel)
  rw [show mkF 7 = 18446744073709551612 by decide +kernel, show seF 7 = 0 by decide +kernel] at o; exact o
theorem out_stSr {s m e : Int} (h : Out s m e) (h1 : bitZ m 1 = true) (h5 : bitZ m 5 = true) (h8 : bitZ m 8 = true) : Out (stSr s) m e :=
  ((h.withB (by omega) h1 _).withB (by omega) h5 _).withB (by omega) h8 _
theorem legal_sret {t : HS} (ok : HOk t) (h : Lgl t) : Lgl (sretZ t) := by
  unfold sretZ
  have o38 := out_of h 0 38 (by omega) (by decide +kernel)
  split
  · refine Lgl.modeP (Lgl.st (Lgl.at (Lgl.pcP h ?_) 31 68 _ _ (by omega) (by decide +kernel) rfl rfl (out_stSr (out_of h 31 68 (by omega) (by decide +kernel)) (by decide +kernel) (by decide +kernel) (by decide +kernel)) (by omega) (by omega)) (o38.withB (by omega) (mk_st 17 (by omega)) _) (noMode_with h.mode (by omega) (by omega) (by omega) _)) (privS_is _) (fun _ => privS_not _)
    refine mul_pc ?_ (ok.n 71)
    have o := out_of h 34 71 (by omega) (by decide +kernel)
    rw [show mkF 34 = 18446744073709551612 by decide +kernel, show seF 34 = 0 by decide +kernel] at o; exact o
  · refine Lgl.modeP (Lgl.at (Lgl.st (Lgl.pcP h ?_) ((out_stSr o38 (mk_st 1 (by omega)) (mk_st 5 (by omega)) (mk_st 8 (by omega))).withB (by omega) (mk_st 17 (by omega)) _) (noMode_with (noMode_with (noMode_with (noMode_with h.mode (by omega) (by omega) (by omega) _) (by omega) (by omega) (by omega) _) (by omega) (by omega) (by omega) _) (by omega) (by omega) (by omega) _)) 21 58 _ _ (by omega) (by decide +kernel) rfl rfl ((out_of h 21 58 (by omega) (by decide +kernel)).withB (by omega) (by decide +kernel) _) (by omega) (by omega)) (privS_is _) (fun _ => privS_not _)
    refine mul_pc ?_ (ok.n 54)
    have o := out_of h 17 54 (by omega) (by decide +kernel)
    rw [show mkF 17 = 18446744073709551612 by decide +kernel, show seF 17 = 0 by decide +kernel] at o; exact o
/-! there and back -/
theorem mpp_stM {s p : Int} (hp : p = 0 ∨ p = 1 ∨ p = 3) (v g : Bool) : mppZ (stM s p v g) = p.toNat := by
  obtain ⟨_, h2, h3, _⟩ := backM s p v g
  obtain ⟨h4, h5⟩ := bit_priv hp
  unfold mppZ
  rw [h2, h3, h4, h5]
  rcases hp with rfl | rfl | rfl <;> rfl
theorem privM_stM {s p : Int} (hp : p = 0 ∨ p = 1 ∨ p = 3) (v g : Bool) : privM (stM s p v g) = p := by
  unfold privM; rw [mpp_stM hp]
  rcases hp with rfl | rfl | rfl <;> rfl
theorem vM_stM {s p : Int} (hp : p = 0 ∨ p = 1 ∨ p = 3) {v : Bool} (hv : (v && (p != 3)) = v) (g : Bool) : vM (stM s p v g) = v := by
  unfold vM; rw [mpp_stM hp, (backM s p v g).2.2.2]
  rcases hp with rfl | rfl | rfl <;> simp_all
theorem privS_stS {s p : Int} (hp : p = 0 ∨ p = 1) : privS (stS s p) = p := by
  unfold privS; rw [(backS s p).2]
  rcases hp with rfl | rfl <;> rfl
theorem back_m {t : HS} (h : Lgl t) (c tv tv2 ti : Int) (g : Bool) : (mretZ (enterM t c tv tv2 ti g)).n 0 = t.n 0 ∧ (mretZ (enterM t c tv tv2 ti g)).n 33 = t.n 33 ∧ (mretZ (enterM t c tv tv2 ti g)).v = t.v ∧ bitZ ((mretZ (enterM t c tv tv2 ti g)).n 38) 3 = bitZ (t.n 38) 3 ∧ ∀ i, 1 ≤ i → i ≤ 32 → (mretZ (enterM t c tv tv2 ti g)).n i = t.n i := by
  have e38 : (enterM t c tv tv2 ti g).n 38 = stM (t.n 38) (t.n 33) t.v g := by unfold enterM HS.mode; simp [HS.put]
  have e46 : (enterM t c tv tv2 ti g).n 46 = t.n 0 := by unfold enterM HS.mode; simp [HS.put]
  refine ⟨?_, ?_, ?_, ?_, fun i h1 h2 => ?_⟩
  · unfold mretZ HS.mode; simp [HS.put, e46]
  · have : (mretZ (enterM t c tv tv2 ti g)).n 33 = privM ((enterM t c tv tv2 ti g).n 38) := by unfold mretZ HS.mode; simp [HS.put]
    rw [this, e38, privM_stM h.priv]
  · show vM ((enterM t c tv tv2 ti g).n 38) = t.v
    rw [e38, vM_stM h.priv h.vm]
  · have : (mretZ (enterM t c tv tv2 ti g)).n 38 = stMr ((enterM t c tv tv2 ti g).n 38) := by unfold mretZ HS.mode; simp [HS.put]
    rw [this, (bits_stMr _).2.2, e38, (backM _ _ _ _).1]
  · unfold mretZ HS.mode enterM HS.mode
    have n1 : i ≠ 37 := by omega
    have n2 : i ≠ 33 := by omega
    have n3 : i ≠ 38 := by omega
    have n4 : i ≠ 0 := by omega
    have n5 : i ≠ 50 ∧ i ≠ 49 ∧ i ≠ 48 ∧ i ≠ 47 ∧ i ≠ 46 := by omega
    simp [HS.put, n1, n2, n3, n4, n5]
theorem back_h {t : HS} (h : Lgl t) (hp : t.n 33 = 0 ∨ t.n 33 = 1) (c tv tv2 ti : Int) (g : Bool) : (sretZ (enterH t c tv tv2 ti g)).n 0 = t.n 0 ∧ (sretZ (enterH t c tv tv2 ti g)).n 33 = t.n 33 ∧ (sretZ (enterH t c tv tv2 ti g)).v = t.v ∧ bitZ ((sretZ (enterH t c tv tv2 ti g)).n 38) 1 = bitZ (t.n 38) 1 ∧ ∀ i, 1 ≤ i → i ≤ 32 → (sretZ (enterH t c tv tv2 ti g)).n i = t.n i := by
  have ev : (enterH t c tv tv2 ti g).v = false := rfl
  have e38 : (enterH t c tv tv2 ti g).n 38 = stS (t.n 38) (t.n 33) := by unfold enterH HS.mode; simp [HS.put]
  have e54 : (enterH t c tv tv2 ti g).n 54 = t.n 0 := by unfold enterH HS.mode; simp [HS.put]
  have e58 : (enterH t c tv tv2 ti g).n 58 = hsT (t.n 58) (t.n 33) t.v g := by unfold enterH HS.mode; simp [HS.put]
  have b7 : bitZ (hsT (t.n 58) (t.n 33) t.v g) 7 = t.v := by
    unfold hsT
    rw [bit_with _ (by omega) (by omega), if_neg (by omega)]
    cases t.v <;> simp (disch := omega) [bit_with]
  refine ⟨?_, ?_, ?_, ?_, fun i h1 h2 => ?_⟩
  · unfold sretZ HS.mode; simp [ev, HS.put, e54]
  · have : (sretZ (enterH t c tv tv2 ti g)).n 33 = privS ((enterH t c tv tv2 ti g).n 38) := by unfold sretZ HS.mode; simp [ev, HS.put]
    rw [this, e38, privS_stS hp]
  · have : (sretZ (enterH t c tv tv2 ti g)).v = bitZ ((enterH t c tv tv2 ti g).n 58) 7 := by unfold sretZ HS.mode; simp [ev]
    rw [this, e58, b7]
  · have : (sretZ (enterH t c tv tv2 ti g)).n 38 = withZ (stSr ((enterH t c tv tv2 ti g).n 38)) 17 false := by unfold sretZ HS.mode; simp [ev, HS.put]
    rw [this, e38]
    unfold stSr
    have := (backS (t.n 38) (t.n 33)).1
    simp (disch := omega) [bit_with, this]
  · unfold sretZ HS.mode
    have n1 : i ≠ 37 := by omega
    have n2 : i ≠ 33 := by omega
    have n3 : i ≠ 38 := by omega
    have n4 : i ≠ 0 := by omega
    have n5 : i ≠ 54 ∧ i ≠ 55 ∧ i ≠ 56 ∧ i ≠ 64 ∧ i ≠ 65 ∧ i ≠ 58 := by omega
    unfold enterH HS.mode
    simp [HS.put, n1, n2, n3, n4, n5]
theorem back_g {t : HS} (h : Lgl t) (hp : t.n 33 = 0 ∨ t.n 33 = 1) (hv : t.v = true) (c tv : Int) : (sretZ (enterG t c tv)).n 0 = t.n 0 ∧ (sretZ (enterG t c tv)).n 33 = t.n 33 ∧ (sretZ (enterG t c tv)).v = t.v ∧ bitZ ((sretZ (enterG t c tv)).n 68) 1 = bitZ (t.n 68) 1 ∧ ∀ i, 1 ≤ i → i ≤ 32 → (sretZ (enterG t c tv)).n i = t.n i := by
  have ev : (enterG t c tv).v = true := rfl
  have e68 : (enterG t c tv).n 68 = stS (t.n 68) (t.n 33) := by unfold enterG HS.mode; simp [HS.put]
  have e71 : (enterG t c tv).n 71 = t.n 0 := by unfold enterG HS.mode; simp [HS.put]
  refine ⟨?_, ?_, ?_, ?_, fun i h1 h2 => ?_⟩
  · unfold sretZ HS.mode; simp [ev, HS.put, e71]
  · have : (sretZ (enterG t c tv)).n 33 = privS ((enterG t c tv).n 68) := by unfold sretZ HS.mode; simp [ev, HS.put]
    rw [this, e68, privS_stS hp]
  · have : (sretZ (enterG t c tv)).v = true := by unfold sretZ HS.mode; simp [ev]
    rw [this, hv]
  · have : (sretZ (enterG t c tv)).n 68 = stSr ((enterG t c tv).n 68) := by unfold sretZ HS.mode; simp [ev, HS.put]
    rw [this, e68]
    unfold stSr
    have := (backS (t.n 68) (t.n 33)).1
    simp (disch := omega) [bit_with, this]
  · unfold sretZ HS.mode
    have n1 : i ≠ 37 := by omega
    have n2 : i ≠ 33 := by omega
    have n3 : i ≠ 38 := by omega
    have n4 : i ≠ 0 := by omega
    have n5 : i ≠ 71 ∧ i ≠ 72 ∧ i ≠ 73 ∧ i ≠ 68 := by omega
    unfold enterG HS.mode
    simp [HS.put, n1, n2, n3, n4, n5]
end Go.Proofs.Ytkfhpmleelmcfaa
