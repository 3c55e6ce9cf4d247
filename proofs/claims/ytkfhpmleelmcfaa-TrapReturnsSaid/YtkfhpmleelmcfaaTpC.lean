/- Layer 14 (trap): the hart that took a trap, and the one that comes back, by the document, as states; legal ones stay legal; the way back. Prepared ahead. -/
import Derived.Test.YtkfhpmleelmcfaaTpB
namespace Go.Proofs.Ytkfhpmleelmcfaa
open Go.RowKit
set_option linter.unusedVariables false
set_option maxRecDepth 100000

theorem Lgl.at {t : HS} (h : Lgl t) (j c : Nat) (m s : Int) (hj : j < 38) (hc : clF j = c) (hm : mkF j = m) (hs : seF j = s) {x : Int} (hx : Out x m s) (h0 : j ≠ 0) (ht : c ≠ 57 ∧ c ≠ 66 ∧ c ≠ 74) : Lgl (t.put c x) := by
  subst hc hm hs
  exact h.csr hj hx (fun e => absurd e h0) ht
theorem Lgl.st {t : HS} (h : Lgl t) {x : Int} (hx : Out x (mkF 0) (seF 0)) (hm : noModeB x = false) : Lgl (t.put 38 x) := by
  have hc : clF 0 = 38 := by decide +kernel
  have := h.csr (j := 0) (by omega) hx (fun _ => hm) (by decide +kernel)
  rw [hc] at this; exact this
theorem three : ∀ i, i < 64 → (V 18446744073709551612).getLsbD i = (decide (i < 64) && !(V 3).getLsbD i) := by decide +kernel
/-- What ends in two zeros. -/
theorem out_pc {x : Int} (hx : bits .andNot .u64 x 3 = x) : Out x 18446744073709551612 0 := fun i hi hm => by
  rw [three i hi, decide_eq_true hi, Bool.true_and] at hm
  rw [← hx, bits_andNot, V_U, BitVec.getLsbD_and, BitVec.getLsbD_not, decide_eq_true hi, Bool.true_and, hm, Bool.and_false]
  simp [V_zero]
theorem andNot_mul {x : Int} (hx : In64 x) (h4 : x % 4 = 0) : bits .andNot .u64 x 3 = x := by
  have hb : ∀ i, i < 2 → (V x).getLsbD i = false := fun i hi => by
    rw [bit_div, decide_eq_false_iff_not]
    have e : ((V x).toNat : Int) = x := toNat_V hx
    have : (V x).toNat % 4 = 0 := by omega
    have : i = 0 ∨ i = 1 := by omega
    rcases this with rfl | rfl
    · simp; omega
    · simp; omega
  rw [bits_andNot, show (V x &&& ~~~ V 3) = V x from ext64 fun i hi => ?_, U_V hx]
  rw [BitVec.getLsbD_and, BitVec.getLsbD_not, decide_eq_true hi, Bool.true_and]
  by_cases c : i < 2
  · rw [hb i c]; rfl
  · have : (V 3).getLsbD i = false := by
      have : ∀ i, i < 64 → 2 ≤ i → (V 3).getLsbD i = false := by decide +kernel
      exact this i hi (by omega)
    rw [this]; simp
theorem place_mul (tv c : Int) (h : In64 tv) : In64 (placeZ tv c) ∧ placeZ tv c % 4 = 0 := by
  unfold placeZ In64 at *
  split
  · rw [IntKind.wrap_u64, IntKind.wrap_u64]; omega
  · omega
theorem bit_priv {p : Int} (h : p = 0 ∨ p = 1 ∨ p = 3) : (bitZ p 0 = (p != 0)) ∧ (bitZ p 1 = (p == 3)) := by rcases h with rfl | rfl | rfl <;> decide +kernel
theorem mk_st : ∀ k, k = 1 ∨ k = 3 ∨ k = 5 ∨ k = 7 ∨ k = 8 ∨ k = 11 ∨ k = 12 ∨ k = 17 ∨ k = 38 ∨ k = 39 → bitZ (mkF 0) k = true := by
  intro k hk; rcases hk with rfl | rfl | rfl | rfl | rfl | rfl | rfl | rfl | rfl | rfl <;> decide +kernel
theorem out_stM {s p : Int} (h : Out s (mkF 0) (seF 0)) (v g : Bool) : Out (stM s p v g) (mkF 0) (seF 0) :=
  (((((h.withB (by omega) (mk_st 7 (by omega)) _).withB (by omega) (mk_st 3 (by omega)) _).withB (by omega) (mk_st 11 (by omega)) _).withB (by omega) (mk_st 12 (by omega)) _).withB (by omega) (mk_st 39 (by omega)) _).withB (by omega) (mk_st 38 (by omega)) _
theorem mode_stM {s p : Int} (hp : p = 0 ∨ p = 1 ∨ p = 3) (v g : Bool) : noModeB (stM s p v g) = false := by
  obtain ⟨_, h2, h3, _⟩ := backM s p v g
  obtain ⟨h4, h5⟩ := bit_priv hp
  rw [noMode_bits, h2, h3, h4, h5]
  rcases hp with rfl | rfl | rfl <;> rfl
theorem out_stS {s p : Int} (h : Out s (mkF 0) (seF 0)) : Out (stS s p) (mkF 0) (seF 0) :=
  ((h.withB (by omega) (mk_st 5 (by omega)) _).withB (by omega) (mk_st 1 (by omega)) _).withB (by omega) (mk_st 8 (by omega)) _
theorem mode_stS {s p : Int} (h : noModeB s = false) : noModeB (stS s p) = false :=
  noMode_with (noMode_with (noMode_with h (by omega) (by omega) (by omega) _) (by omega) (by omega) (by omega) _) (by omega) (by omega) (by omega) _
/-- The hart with its mode set, nothing held, not waiting. -/
def HS.mode (t : HS) (p : Int) (v w : Bool) : HS := { n := ((t.put 33 p).put 37 0).n, v := v, wait := w, held := false }
/-- Into the machine's mode. -/
def enterM (t : HS) (c tv tv2 ti : Int) (g : Bool) : HS := ((((((((t.put 46 (t.n 0)).put 47 c).put 48 tv).put 49 tv2).put 50 ti).put 38 (stM (t.n 38) (t.n 33) t.v g)).put 0 (placeZ (t.n 43) c))).mode 3 false false
def hsT (x p : Int) (v g : Bool) : Int := withZ (if v then withZ (withZ x 7 v) 8 (p == 1) else withZ x 7 v) 6 g
/-- Into the host's. -/
def enterH (t : HS) (c tv tv2 ti : Int) (g : Bool) : HS := (((((((((t.put 54 (t.n 0)).put 55 c).put 56 tv).put 64 tv2).put 65 ti).put 38 (stS (t.n 38) (t.n 33))).put 58 (hsT (t.n 58) (t.n 33) t.v g)).put 0 (placeZ (t.n 51) c))).mode 1 false false
def causeG (c : Int) : Int := if c = 9223372036854775810 ∨ c = 9223372036854775814 ∨ c = 9223372036854775818 then c - 1 else c
/-- Into the guest's. -/
def enterG (t : HS) (c tv : Int) : HS := (((((t.put 71 (t.n 0)).put 72 (causeG c)).put 73 tv).put 68 (stS (t.n 68) (t.n 33))).put 0 (placeZ (t.n 69) (causeG c))).mode 1 true false
theorem legal_enterM {t : HS} (ok : HOk t) (h : Lgl t) (c tv tv2 ti : Int) (g : Bool) : Lgl (enterM t c tv tv2 ti g) := by
  unfold enterM
  refine Lgl.modeP (Lgl.pcP (Lgl.st ?_ (out_stM (h.out 0 (by omega) |> fun o => by have e : clF 0 = 38 := by decide +kernel
                                                                                   rw [e] at o; exact o) _ _) (mode_stM h.priv _ _)) (andNot_mul (place_mul _ _ (ok.n 43)).1 (place_mul _ _ (ok.n 43)).2)) (.inr (.inr rfl)) (fun e => by cases e)
  exact ((((h.at 7 46 18446744073709551612 0 (by omega) (by decide +kernel) (by decide +kernel) (by decide +kernel) (out_pc h.pc) (by omega) (by omega)).at 8 47 18446744073709551615 0 (by omega) (by decide +kernel) (by decide +kernel) (by decide +kernel) out_all (by omega) (by omega)).at 9 48 18446744073709551615 0 (by omega) (by decide +kernel) (by decide +kernel) (by decide +kernel) out_all (by omega) (by omega)).at 10 49 18446744073709551615 0 (by omega) (by decide +kernel) (by decide +kernel) (by decide +kernel) out_all (by omega) (by omega)).at 11 50 18446744073709551615 0 (by omega) (by decide +kernel) (by decide +kernel) (by decide +kernel) out_all (by omega) (by omega)
theorem out_of {t : HS} (h : Lgl t) (j c : Nat) (hj : j < 38) (hc : clF j = c) : Out (t.n c) (mkF j) (seF j) := by subst hc; exact h.out j hj
theorem legal_enterH {t : HS} (ok : HOk t) (h : Lgl t) (c tv tv2 ti : Int) (g : Bool) : Lgl (enterH t c tv tv2 ti g) := by
  unfold enterH
  have o58 : Out (hsT (t.n 58) (t.n 33) t.v g) (mkF 21) (seF 21) := by
    have o := out_of h 21 58 (by omega) (by decide +kernel)
    unfold hsT
    refine Out.withB ?_ (by omega) (by decide +kernel) _
    split
    · exact (o.withB (by omega) (by decide +kernel) _).withB (by omega) (by decide +kernel) _
    · exact o.withB (by omega) (by decide +kernel) _
  refine Lgl.modeP (Lgl.pcP (Lgl.at (Lgl.st ?_ (out_stS (out_of h 0 38 (by omega) (by decide +kernel))) (mode_stS h.mode)) 21 58 _ _ (by omega) (by decide +kernel) rfl rfl o58 (by omega) (by omega)) (andNot_mul (place_mul _ _ (ok.n 51)).1 (place_mul _ _ (ok.n 51)).2)) (.inr (.inl rfl)) (fun e => by cases e)
  exact ((((h.at 17 54 18446744073709551612 0 (by omega) (by decide +kernel) (by decide +kernel) (by decide +kernel) (out_pc h.pc) (by omega) (by omega)).at 18 55 18446744073709551615 0 (by omega) (by decide +kernel) (by decide +kernel) (by decide +kernel) out_all (by omega) (by omega)).at 19 56 18446744073709551615 0 (by omega) (by decide +kernel) (by decide +kernel) (by decide +kernel) out_all (by omega) (by omega)).at 27 64 18446744073709551615 0 (by omega) (by decide +kernel) (by decide +kernel) (by decide +kernel) out_all (by omega) (by omega)).at 28 65 18446744073709551615 0 (by omega) (by decide +kernel) (by decide +kernel) (by decide +kernel) out_all (by omega) (by omega)
theorem legal_enterG {t : HS} (ok : HOk t) (h : Lgl t) (c tv : Int) : Lgl (enterG t c tv) := by
  unfold enterG
  have o68 : Out (stS (t.n 68) (t.n 33)) (mkF 31) (seF 31) := by
    have o := out_of h 31 68 (by omega) (by decide +kernel)
    exact ((o.withB (by omega) (by decide +kernel) _).withB (by omega) (by decide +kernel) _).withB (by omega) (by decide +kernel) _
  refine Lgl.modeP (Lgl.pcP (Lgl.at ?_ 31 68 _ _ (by omega) (by decide +kernel) rfl rfl o68 (by omega) (by omega)) (andNot_mul (place_mul _ _ (ok.n 69)).1 (place_mul _ _ (ok.n 69)).2)) (.inr (.inl rfl)) (fun _ => by decide)
  exact ((h.at 34 71 18446744073709551612 0 (by omega) (by decide +kernel) (by decide +kernel) (by decide +kernel) (out_pc h.pc) (by omega) (by omega)).at 35 72 18446744073709551615 0 (by omega) (by decide +kernel) (by decide +kernel) (by decide +kernel) out_all (by omega) (by omega)).at 36 73 18446744073709551615 0 (by omega) (by decide +kernel) (by decide +kernel) (by decide +kernel) out_all (by omega) (by omega)
end Go.Proofs.Ytkfhpmleelmcfaa
