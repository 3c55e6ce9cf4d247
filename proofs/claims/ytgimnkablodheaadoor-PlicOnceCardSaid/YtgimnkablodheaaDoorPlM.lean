/- Layer 5, plain: the number of 32 bits under the operations on words of 32 bits; bits of a number; the best, from below and from above. Nothing of the program. -/
import Derived.Test.YtgimnkablodheaaDoorPlF
import Derived.Test.YtgimnkablodheaaDoorPlC
import Derived.Test.YtgimnkablodheaaDoorBits
namespace Go.Proofs.YtgimnkablodheaaDoor
open Go.RowKit
set_option linter.unusedVariables false

def V32 (x : Int) : BitVec 32 := BitVec.ofInt 32 x
theorem V32_toNat {x : Int} (h0 : 0 ≤ x) (h1 : x < 4294967296) : ((V32 x).toNat : Int) = x := by
  unfold V32; rw [BitVec.toNat_ofInt]; omega
theorem V32_mod (x : Int) : ((V32 x).toNat : Int) = x % 4294967296 := by
  unfold V32; rw [BitVec.toNat_ofInt]; omega
theorem V32_bit {x : Int} (h0 : 0 ≤ x) (h1 : x < 4294967296) (s : Nat) : (V32 x).getLsbD s = (x / 2 ^ s % 2 == 1) := by
  have e := V32_toNat h0 h1
  rw [BitVec.getLsbD, Nat.testBit_eq_decide_div_mod_eq]
  have h : x / 2 ^ s % 2 = (((V32 x).toNat / 2 ^ s % 2 : Nat) : Int) := by
    rw [Int.natCast_emod, Int.natCast_ediv, e]; norm_cast
  rw [h, Bool.eq_iff_iff, decide_eq_true_eq, beq_iff_eq]; omega
theorem bits32_V (f : Nat → Bool) {s : Nat} (hs : s < 32) : (V32 (bits32 f)).getLsbD s = f s := by
  rw [V32_bit (bits32_bd f).1 (bits32_bd f).2, bits32_bit f hs]
theorem bits32_of (b : BitVec 32) {f : Nat → Bool} (h : ∀ s, s < 32 → b.getLsbD s = f s) : (b.toNat : Int) = bits32 f := by
  have e : b = V32 (bits32 f) := BitVec.eq_of_getLsbD_eq fun i hi => by rw [h i hi, bits32_V f hi]
  rw [e, V32_toNat (bits32_bd f).1 (bits32_bd f).2]
theorem bits32_congr {f g : Nat → Bool} (h : ∀ s, s < 32 → f s = g s) : bits32 f = bits32 g := by
  rw [← bits32_of (V32 (bits32 f)) (f := g) fun s hs => by rw [bits32_V f hs, h s hs], V32_toNat (bits32_bd f).1 (bits32_bd f).2]
theorem wrap32_nat (b : BitVec 32) : IntKind.u32.wrap (b.toNat : Int) = b.toNat := by
  have := b.isLt
  rw [IntKind.wrap_u32]; omega
theorem or32 (x y : Int) : bits .or .u32 x y = ((V32 x ||| V32 y).toNat : Int) := by
  show IntKind.u32.wrap ((V32 x ||| V32 y).toNat : Int) = _
  exact wrap32_nat _
theorem and32 (x y : Int) : bits .and .u32 x y = ((V32 x &&& V32 y).toNat : Int) := by
  show IntKind.u32.wrap ((V32 x &&& V32 y).toNat : Int) = _
  exact wrap32_nat _
theorem andNot32 (x y : Int) : bits .andNot .u32 x y = ((V32 x &&& ~~~ V32 y).toNat : Int) := by
  show IntKind.u32.wrap ((V32 x &&& ~~~ V32 y).toNat : Int) = _
  exact wrap32_nat _
theorem pow32 {k : Nat} (hk : k < 32) (s : Nat) (hs : s < 32) : (V32 (2 ^ k)).getLsbD s = decide (s = k) := by
  have h : (2 : Int) ^ k = ((2 ^ k : Nat) : Int) := by norm_cast
  unfold V32
  rw [h, BitVec.ofInt_natCast, BitVec.getLsbD, BitVec.toNat_ofNat, Nat.mod_eq_of_lt (Nat.pow_lt_pow_right (by omega) hk), Nat.testBit_two_pow]
  exact decide_eq_decide.2 ⟨fun e => e.symm, fun e => e.symm⟩
/-- A bit set, a bit taken away. -/
theorem set32 (f : Nat → Bool) {k : Nat} (hk : k < 32) : bits .or .u32 (bits32 f) (2 ^ k) = bits32 (upd f k true) := by
  rw [or32]
  refine bits32_of _ fun s hs => ?_
  rw [BitVec.getLsbD_or, bits32_V f hs, pow32 hk s hs]
  unfold upd
  by_cases e : s = k
  · rw [if_pos e, decide_eq_true e, Bool.or_true]
  · rw [if_neg e, decide_eq_false e, Bool.or_false]
theorem clr32 (f : Nat → Bool) {k : Nat} (hk : k < 32) : bits .andNot .u32 (bits32 f) (2 ^ k) = bits32 (upd f k false) := by
  rw [andNot32]
  refine bits32_of _ fun s hs => ?_
  rw [BitVec.getLsbD_and, BitVec.getLsbD_not, bits32_V f hs, pow32 hk s hs, decide_eq_true hs, Bool.true_and]
  unfold upd
  by_cases e : s = k
  · rw [if_pos e, decide_eq_true e, Bool.not_true, Bool.and_false]
  · rw [if_neg e, decide_eq_false e, Bool.not_false, Bool.and_true]
theorem both32 (f g : Nat → Bool) : bits .and .u32 (bits32 f) (bits32 g) = bits32 (fun s => f s && g s) := by
  rw [and32]
  exact bits32_of _ fun s hs => by rw [BitVec.getLsbD_and, bits32_V f hs, bits32_V g hs]
/-- Bit s of a number. -/
def vbit (v : Int) (s : Nat) : Bool := v / 2 ^ s % 2 == 1
theorem low32 {v : Int} (h : 0 ≤ v) : v % 4294967296 = bits32 (vbit v) := by
  rw [← V32_mod]
  refine bits32_of _ fun s hs => ?_
  have h1 := Int.emod_nonneg v (show (4294967296 : Int) ≠ 0 by decide)
  have h2 := Int.emod_lt_of_pos v (show (0 : Int) < 4294967296 by decide)
  have e : V32 v = V32 (v % 4294967296) := BitVec.eq_of_toNat_eq (by have := V32_mod v; have k := V32_mod (v % 4294967296); omega)
  rw [e, V32_bit h1 h2]
  unfold vbit
  have hd : v % 4294967296 / 2 ^ s % 2 = v / 2 ^ s % 2 := by
    have hp : (4294967296 : Int) = 2 ^ s * (2 * 2 ^ (31 - s)) := by
      rw [show (2 : Int) * 2 ^ (31 - s) = 2 ^ (32 - s) by rw [show 32 - s = 31 - s + 1 by omega, Int.pow_succ, Int.mul_comm], ← Int.pow_add, show s + (32 - s) = 32 by omega]; rfl
    have hv : v = v % 4294967296 + 2 ^ s * (2 * (2 ^ (31 - s) * (v / 4294967296))) := by
      have h3 := Int.emod_add_mul_ediv v 4294967296
      have h4 : 4294967296 * (v / 4294967296) = 2 ^ s * (2 * (2 ^ (31 - s) * (v / 4294967296))) := by
        conv => lhs; lhs; rw [hp]
        rw [Int.mul_assoc, Int.mul_assoc]
      omega
    have hk : v / 2 ^ s = v % 4294967296 / 2 ^ s + 2 * (2 ^ (31 - s) * (v / 4294967296)) := by
      have h0 : (2 : Int) ^ s ≠ 0 := Int.pow_ne_zero (by decide)
      have := Int.add_mul_ediv_left (v % 4294967296) (2 * (2 ^ (31 - s) * (v / 4294967296))) h0
      rw [← this, ← hv]
    rw [hk]; omega
  rw [hd]
theorem vbit_bits32 (f : Nat → Bool) {s : Nat} (hs : s < 32) : vbit (bits32 f) s = f s := bits32_bit f hs
/-- What may be enabled by a number: not the source 0. -/
def onBits (v : Int) (s : Nat) : Bool := decide (0 < s) && vbit v s
theorem not1_32 {v : Int} (h : 0 ≤ v) : bits .andNot .u32 (v % 4294967296) 1 = bits32 (onBits v) := by
  rw [low32 h, show (1 : Int) = 2 ^ 0 by rfl, clr32 _ (by omega)]
  refine bits32_congr fun s hs => ?_
  unfold upd onBits
  by_cases e : s = 0
  · rw [if_pos e, decide_eq_false (by omega), Bool.false_and]
  · rw [if_neg e, decide_eq_true (by omega), Bool.true_and]
theorem bit32_is (f : Nat → Bool) {s : Nat} (hs : s < 32) : bitB (V (bits32 f)) s = f s := by
  have hb := bits32_bd f
  have h := bit_reckon (x := bits32 f) (i := (s : Int)) (k := 32) (by omega) hb.1 (by exact hb.2) (by omega)
  rw [← h, show min (s : Int).toNat 32 = s by omega, bits32_bit f hs]
theorem bit32_out (f : Nat → Bool) {i : Int} (h : ¬ (0 ≤ i ∧ i < 32)) : bitB (V (bits32 f)) i = false := by
  have hb := bits32_bd f
  by_cases h0 : 0 ≤ i
  · have k := bit_reckon (x := bits32 f) (i := i) (k := 32) (by omega) hb.1 (by exact hb.2) h0
    rw [← k, show min i.toNat 32 = 32 by omega, Int.ediv_eq_zero_of_lt hb.1 (by exact hb.2)]; rfl
  · exact bit_neg (by omega)
/-- The lowest three bits. -/
theorem low3 {v : Int} (h : In64 v) : U (fieldB (V v) 0 3) = v % 8 := by
  have h1 := Int.emod_nonneg v (show (8 : Int) ≠ 0 by decide)
  have h2 := Int.emod_lt_of_pos v (show (0 : Int) < 8 by decide)
  have e : fieldB (V v) 0 3 = V (v % 8) := ext64 fun i hi => by
    rw [field_bit _ _ (by decide), decide_eq_true hi, Bool.true_and, show i + (0 : Int).toNat = i by simp]
    have k := h.1
    rw [bit_div, bit_div]
    have e1 := toNat_V h
    have e2 := toNat_V (x := v % 8) (by unfold In64; omega)
    by_cases c : (i : Int) < 3
    · rw [decide_eq_true c, Bool.true_and]
      congr 1
      have hm : (V (v % 8)).toNat = (V v).toNat % 8 := by omega
      rw [hm]
      have : i = 0 ∨ i = 1 ∨ i = 2 := by omega
      rcases this with rfl | rfl | rfl <;> (apply propext; simp only [Nat.pow_zero, Nat.pow_one, Nat.reducePow]; omega)
    · rw [decide_eq_false c, Bool.false_and]
      symm
      rw [decide_eq_false_iff_not]
      have hlt : (V (v % 8)).toNat < 2 ^ 3 := by omega
      rw [Nat.div_eq_of_lt (Nat.lt_of_lt_of_le hlt (Nat.pow_le_pow_right (by omega) (by omega)))]
      omega
  rw [e, U_V (by unfold In64; omega)]

/-! ### the best -/
def candP (t : PS) (c i : Nat) : Bool := t.pend i && t.on i c && decide (0 < t.prio i)
/-- b is the best of the sources from lo to hi. -/
structure BestIn (t : PS) (c lo hi b : Nat) : Prop where
  nil : b = 0 → ∀ i, lo ≤ i → i ≤ hi → candP t c i = false
  is : b ≠ 0 → lo ≤ b ∧ b ≤ hi ∧ candP t c b = true ∧ ∀ i, lo ≤ i → i ≤ hi → candP t c i = true → t.prio i < t.prio b ∨ (t.prio i = t.prio b ∧ b ≤ i)
theorem BestIn.uniq {t : PS} {c lo hi a b : Nat} (ha : BestIn t c lo hi a) (hb : BestIn t c lo hi b) : a = b := by
  by_cases a0 : a = 0
  · by_cases b0 : b = 0
    · omega
    · obtain ⟨h1, h2, h3, _⟩ := hb.is b0
      rw [ha.nil a0 b h1 h2] at h3; cases h3
  · obtain ⟨h1, h2, h3, h4⟩ := ha.is a0
    by_cases b0 : b = 0
    · rw [hb.nil b0 a h1 h2] at h3; cases h3
    · obtain ⟨k1, k2, k3, k4⟩ := hb.is b0
      have x := h4 b k1 k2 k3
      have y := k4 a h1 h2 h3
      omega
theorem bestTo_best (t : PS) (c n : Nat) (hn : n ≤ 31) : BestIn t c (32 - n) 31 (bestTo t c n) := by
  induction n with
  | zero => exact ⟨fun _ i h1 h2 => by omega, fun h => absurd rfl h⟩
  | succ n ih =>
    have H := ih (by omega)
    simp only [bestTo]
    generalize bestTo t c n = b at *
    by_cases hc : candP t c (31 - n) = true
    · have hp : 0 < t.prio (31 - n) := by unfold candP at hc; simp at hc; exact hc.2
      have e : (t.pend (31 - n) && t.on (31 - n) c && decide (0 < t.prio (31 - n))) = true := hc
      rw [e, Bool.true_and]
      by_cases hb : b = 0
      · rw [decide_eq_true hb, Bool.true_or, if_pos rfl]
        refine ⟨fun h => by omega, fun _ => ⟨by omega, by omega, hc, fun i h1 h2 h3 => ?_⟩⟩
        by_cases ei : i = 31 - n
        · subst ei; exact .inr ⟨rfl, Nat.le_refl _⟩
        · rw [H.nil hb i (by omega) h2] at h3; cases h3
      · obtain ⟨h1, h2, h3, h4⟩ := H.is hb
        rw [decide_eq_false hb, Bool.false_or]
        by_cases hle : t.prio b ≤ t.prio (31 - n)
        · rw [decide_eq_true hle, if_pos rfl]
          refine ⟨fun h => by omega, fun _ => ⟨by omega, by omega, hc, fun i k1 k2 k3 => ?_⟩⟩
          by_cases ei : i = 31 - n
          · subst ei; exact .inr ⟨rfl, Nat.le_refl _⟩
          · have := h4 i (by omega) k2 k3
            omega
        · rw [decide_eq_false hle, if_neg (by simp)]
          refine ⟨fun h => absurd h hb, fun _ => ⟨by omega, h2, h3, fun i k1 k2 k3 => ?_⟩⟩
          by_cases ei : i = 31 - n
          · subst ei; exact .inl (by omega)
          · exact h4 i (by omega) k2 k3
    · have e : (t.pend (31 - n) && t.on (31 - n) c && decide (0 < t.prio (31 - n))) = false := by simpa [candP] using hc
      rw [e, Bool.false_and, if_neg (by simp)]
      have hcf : candP t c (31 - n) = false := e
      refine ⟨fun h i k1 k2 => ?_, fun h => ?_⟩
      · by_cases ei : i = 31 - n
        · subst ei; exact hcf
        · exact H.nil h i (by omega) k2
      · obtain ⟨h1, h2, h3, h4⟩ := H.is h
        refine ⟨by omega, h2, h3, fun i k1 k2 k3 => ?_⟩
        by_cases ei : i = 31 - n
        · subst ei; rw [hcf] at k3; cases k3
        · exact h4 i (by omega) k2 k3
/-- The best of the sources 1 to n, as it is sought from below. -/
def bestUp (t : PS) (c : Nat) : Nat → Nat
  | 0 => 0
  | n + 1 => if t.pend (n + 1) && t.on (n + 1) c && decide (t.prio (bestUp t c n) < t.prio (n + 1)) then n + 1 else bestUp t c n
theorem bestUp_le (t : PS) (c n : Nat) : bestUp t c n ≤ n := by
  induction n with
  | zero => exact Nat.le_refl _
  | succ n ih => simp only [bestUp]; split <;> omega
theorem bestUp_best (t : PS) (c n : Nat) (h0 : t.prio 0 = 0) : BestIn t c 1 n (bestUp t c n) := by
  induction n with
  | zero => exact ⟨fun _ i h1 h2 => by omega, fun h => absurd rfl h⟩
  | succ n H =>
    simp only [bestUp]
    have hle := bestUp_le t c n
    generalize bestUp t c n = b at *
    by_cases hb : b = 0
    · rw [hb, h0]
      by_cases hc : candP t c (n + 1) = true
      · have e : (t.pend (n + 1) && t.on (n + 1) c && decide (0 < t.prio (n + 1))) = true := hc
        rw [e, if_pos rfl]
        refine ⟨fun h => by omega, fun _ => ⟨by omega, Nat.le_refl _, hc, fun i h1 h2 h3 => ?_⟩⟩
        by_cases ei : i = n + 1
        · subst ei; exact .inr ⟨rfl, Nat.le_refl _⟩
        · rw [H.nil hb i h1 (by omega)] at h3; cases h3
      · have e : (t.pend (n + 1) && t.on (n + 1) c && decide (0 < t.prio (n + 1))) = false := by simpa [candP] using hc
        rw [e, if_neg (by simp)]
        refine ⟨fun _ i h1 h2 => ?_, fun h => absurd rfl h⟩
        by_cases ei : i = n + 1
        · subst ei; exact e
        · exact H.nil hb i h1 (by omega)
    · obtain ⟨h1, h2, h3, h4⟩ := H.is hb
      have hpb : 0 < t.prio b := by unfold candP at h3; simp at h3; exact h3.2
      by_cases hc : (t.pend (n + 1) && t.on (n + 1) c && decide (t.prio b < t.prio (n + 1))) = true
      · rw [if_pos hc]
        simp at hc
        obtain ⟨⟨hc1, hc2⟩, hc3⟩ := hc
        refine ⟨fun h => by omega, fun _ => ⟨by omega, Nat.le_refl _, by unfold candP; rw [hc1, hc2, decide_eq_true (by omega)]; rfl, fun i k1 k2 k3 => ?_⟩⟩
        by_cases ei : i = n + 1
        · subst ei; exact .inr ⟨rfl, Nat.le_refl _⟩
        · have := h4 i k1 (by omega) k3
          omega
      · rw [if_neg hc]
        refine ⟨fun h => absurd h hb, fun _ => ⟨h1, by omega, h3, fun i k1 k2 k3 => ?_⟩⟩
        by_cases ei : i = n + 1
        · subst ei
          unfold candP at k3; simp at k3 hc
          have := hc k3.1.1 k3.1.2
          omega
        · exact h4 i k1 (by omega) k3
theorem bestUp_is (t : PS) (c : Nat) (h0 : t.prio 0 = 0) : bestUp t c 31 = bestTo t c 31 := (bestUp_best t c 31 h0).uniq (bestTo_best t c 31 (by omega))
theorem bestUp_step (t : PS) {c n b : Nat} (hb : b = bestUp t c n) : bestUp t c (n + 1) = if t.pend (n + 1) && t.on (n + 1) c && decide (t.prio b < t.prio (n + 1)) then n + 1 else b := by
  simp only [bestUp]; rw [← hb]

end Go.Proofs.YtgimnkablodheaaDoor
