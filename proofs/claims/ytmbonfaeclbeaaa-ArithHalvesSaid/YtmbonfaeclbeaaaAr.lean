/- The document's words of layer 2 on integers: signed reading, upper halves of products, quotients and rests, halves drawn out; and that the program's and the document's reckonings come to them. Plain Lean; nothing of the program. -/
import Derived.Test.YtmbonfaeclbeaaaBits
namespace Go.Proofs.Ytmbonfaeclbeaaa
open Go.RowKit
set_option linter.unusedVariables false

/-- A word read signed. -/
def sg (a : Int) : Int := if a < 9223372036854775808 then a else a - 18446744073709551616
/-- Brought back into a word. -/
def wd (x : Int) : Int := x % 18446744073709551616
/-- The upper half of a product of two numbers. -/
def hiZ (x y : Int) : Int := wd (x * y / 18446744073709551616)
/-- P2.2. -/
def divZ (a b : Int) : Int := if b = 0 then 18446744073709551615 else wd ((sg a).tdiv (sg b))
def remZ (a b : Int) : Int := if b = 0 then a else wd ((sg a).tmod (sg b))
def divuZ (a b : Int) : Int := if b = 0 then 18446744073709551615 else a / b
def remuZ (a b : Int) : Int := if b = 0 then a else a % b
/-- The lowest 32 bits drawn out. -/
def dr (w : Int) : Int := if w % 4294967296 < 2147483648 then w % 4294967296 else w % 4294967296 + 18446744069414584320
def lw (w : Int) : Int := w % 4294967296

theorem wd_in (x : Int) : In64 (wd x) := by unfold In64 wd; omega
theorem wd_wd (x : Int) : wd (wd x) = wd x := by unfold wd; omega
theorem wd_of {x : Int} (h : In64 x) : wd x = x := by unfold In64 at h; unfold wd; omega
theorem wrap_wd (x : Int) : IntKind.u64.wrap x = wd x := by rw [IntKind.wrap_u64]; rfl
theorem sg_in {a : Int} (h : In64 a) : In63 (sg a) := by unfold In64 at h; unfold In63 sg; split <;> omega
theorem wd_sg {a : Int} (h : In64 a) : wd (sg a) = a := by unfold In64 at h; unfold wd sg; split <;> omega
theorem wrap64_sg {a : Int} (h : In64 a) : wrap64 a = sg a := by unfold In64 at h; unfold wrap64 sg; split <;> omega
theorem wd_wrap64 (x : Int) : wd (wrap64 x) = wd x := by unfold wrap64 wd; omega
theorem sg_zero {a : Int} (h : In64 a) : sg a = 0 ↔ a = 0 := by unfold In64 at h; unfold sg; split <;> omega
theorem lw_in (w : Int) : In64 (lw w) := by unfold In64 lw; omega
theorem dr_in (w : Int) : In64 (dr w) := by unfold In64 dr; split <;> omega
theorem dr_lw (w : Int) : dr (lw w) = dr w := by unfold dr lw; rw [Int.emod_emod_of_dvd _ (Int.dvd_refl _)]
theorem dr_congr {v w : Int} (h : v % 4294967296 = w % 4294967296) : dr v = dr w := by unfold dr; rw [h]
theorem dr_mod (w : Int) : dr w % 4294967296 = w % 4294967296 := by unfold dr; split <;> omega
theorem wd_mod (w : Int) : wd w % 4294967296 = w % 4294967296 := by unfold wd; omega
theorem dr_wd (w : Int) : dr (wd w) = dr w := dr_congr (wd_mod w)
theorem dr_dr (w : Int) : dr (dr w) = dr w := dr_congr (dr_mod w)
theorem lw_dr (w : Int) : lw (dr w) = lw w := dr_mod w
theorem dr_zero {w : Int} : dr w = 0 ↔ lw w = 0 := by unfold dr lw; split <;> omega
theorem dr_all : dr 18446744073709551615 = 18446744073709551615 := by decide

/-! ### the program's helpers, as bit vectors -/
theorem sext32 {x : Int} (h : In64 x) : U (sextB (V x) 32) = dr x := by
  have e : sextB (V x) 32 = ((V x).setWidth 32).signExtend 64 := ext64 fun i hi => by
    rw [sext_bit _ (by omega), BitVec.getLsbD_signExtend, BitVec.getLsbD_setWidth, BitVec.msb_eq_getLsbD_last, BitVec.getLsbD_setWidth, decide_eq_true hi]
    by_cases c : i < 32
    · rw [if_pos (by omega), if_pos c]; simp [c]
    · rw [if_neg (by omega), if_neg c]; simp
  have hx := toNat_V h
  rw [e]
  unfold U
  rw [BitVec.toNat_signExtend, BitVec.msb_eq_decide, BitVec.toNat_setWidth, BitVec.toNat_setWidth]
  unfold dr
  generalize (V x).toNat = n at *
  subst hx
  have e2 : (n % 2 ^ 32) % 2 ^ 64 = n % 4294967296 := by omega
  rw [e2]
  by_cases c : n % 4294967296 < 2147483648
  · have d : decide (2 ^ (32 - 1) ≤ n % 2 ^ 32) = false := decide_eq_false (by omega)
    rw [d, if_neg (by decide), if_pos (by omega)]; simp
  · have d : decide (2 ^ (32 - 1) ≤ n % 2 ^ 32) = true := decide_eq_true (by omega)
    rw [d, if_pos rfl, if_neg (by omega)]; simp

theorem field32 {x : Int} (h : In64 x) : U (fieldB (V x) 0 32) = lw x := by
  have e : fieldB (V x) 0 32 = ((V x).setWidth 32).setWidth 64 := ext64 fun i hi => by
    rw [field_bit _ _ (by omega), BitVec.getLsbD_setWidth, BitVec.getLsbD_setWidth, decide_eq_true hi, show (0 : Int).toNat = 0 from rfl, Nat.add_zero]
    by_cases c : i < 32
    · rw [decide_eq_true c, decide_eq_true (show (i : Int) < 32 by omega)]
    · rw [decide_eq_false c, decide_eq_false (show ¬ (i : Int) < 32 by omega)]
  have hx := toNat_V h
  rw [e]
  unfold U
  rw [BitVec.toNat_setWidth, BitVec.toNat_setWidth]
  unfold lw
  generalize (V x).toNat = n at *
  subst hx
  omega

theorem top_bit {x : Int} (h : In64 x) : bitB (V x) 63 = decide (9223372036854775808 ≤ x) := by
  have hx := toNat_V h
  have hl := (V x).isLt
  unfold bitB
  rw [bit_div, decide_eq_true (show (0 : Int) ≤ 63 by omega), Bool.true_and]
  rw [decide_eq_decide]
  have : (63 : Int).toNat = 63 := rfl
  rw [this]
  generalize (V x).toNat = n at *
  subst hx
  omega

/-! ### upper halves -/
theorem hi_nat {a b : Int} (ha : In64 a) (hb : In64 b) : hiZ a b = a * b / 18446744073709551616 ∧ 0 ≤ a * b := by
  unfold In64 at ha hb
  have h0 : 0 ≤ a * b := Int.mul_nonneg ha.1 hb.1
  have h1 : a * b ≤ 18446744073709551615 * 18446744073709551615 := Int.mul_le_mul (by omega) (by omega) hb.1 (by omega)
  unfold hiZ wd
  exact ⟨by omega, h0⟩
/-- b, where a is below 0 as a signed number. -/
def nz (a b : Int) : Int := if 9223372036854775808 ≤ a then b else 0
theorem hi_su {a b : Int} (ha : In64 a) (hb : In64 b) : wd (hiZ a b - nz a b) = hiZ (sg a) b := by
  unfold hiZ sg nz
  by_cases c : a < 9223372036854775808
  · rw [if_neg (by omega), if_pos c, Int.sub_zero, wd_wd]
  · rw [if_pos (by omega), if_neg c, Int.sub_mul]
    generalize a * b = p
    unfold wd; omega
theorem hi_ss {a b : Int} (ha : In64 a) (hb : In64 b) : wd (hiZ (sg a) b - nz b a) = hiZ (sg a) (sg b) := by
  unfold hiZ nz
  by_cases c : b < 9223372036854775808
  · rw [if_neg (by omega), show sg b = b by unfold sg; rw [if_pos c], Int.sub_zero, wd_wd]
  · rw [if_pos (by omega), show sg b = b - 18446744073709551616 by unfold sg; rw [if_neg c], Int.mul_sub]
    have h : ∃ k, sg a = a + 18446744073709551616 * k := by
      unfold sg; split
      · exact ⟨0, by omega⟩
      · exact ⟨-1, by omega⟩
    obtain ⟨k, hk⟩ := h
    generalize sg a * b = p
    unfold wd
    rw [show p - sg a * 18446744073709551616 = p + 18446744073709551616 * (- sg a) by omega, Int.add_mul_ediv_left _ _ (by omega), hk]
    omega
theorem hi_comm (x y : Int) : hiZ x y = hiZ y x := by unfold hiZ; rw [Int.mul_comm]

/-! ### the document's sizes and signs -/
def sz (a : Int) : Int := if 9223372036854775808 ≤ a then 18446744073709551616 - a else a
theorem sz_in {a : Int} (h : In64 a) : In64 (sz a) := by unfold In64 at *; unfold sz; split <;> omega
theorem sz_neg {a : Int} (h : In64 a) (c : 9223372036854775808 ≤ a) : sz a = - sg a ∧ wd (0 - a) = sz a ∧ 0 < sz a := by
  unfold In64 at h; unfold sz sg wd; rw [if_pos c, if_neg (by omega)]; omega
theorem sz_pos {a : Int} (h : In64 a) (c : ¬ 9223372036854775808 ≤ a) : sz a = sg a ∧ sz a = a := by
  unfold sz sg; rw [if_neg c, if_pos (by omega)]; exact ⟨rfl, rfl⟩

theorem div_same {a b : Int} (hb0 : ¬ b = 0) (ha : In64 a) (hb : In64 b) (c : (9223372036854775808 ≤ a) ↔ (9223372036854775808 ≤ b)) : sz a / sz b = divZ a b := by
  have ia := sz_in ha
  have ib := sz_in hb
  have hq : 0 ≤ sz a / sz b := Int.ediv_nonneg ia.1 ib.1
  have hq2 : sz a / sz b ≤ sz a := Int.ediv_le_self _ ia.1
  unfold divZ
  rw [if_neg hb0]
  have e : (sg a).tdiv (sg b) = sz a / sz b := by
    by_cases h : 9223372036854775808 ≤ a
    · have s1 := (sz_neg ha h).1
      have s2 := (sz_neg hb (c.1 h)).1
      rw [show sg a = - sz a by omega, show sg b = - sz b by omega, Int.neg_tdiv, Int.tdiv_neg, Int.neg_neg]
      exact Int.tdiv_eq_ediv_of_nonneg ia.1
    · have s1 := (sz_pos ha h).1
      have s2 := (sz_pos hb (fun k => h (c.2 k))).1
      rw [← s1, ← s2]
      exact Int.tdiv_eq_ediv_of_nonneg ia.1
  rw [e, wd_of ⟨hq, by unfold In64 at ia; omega⟩]
theorem div_apart {a b : Int} (hb0 : ¬ b = 0) (ha : In64 a) (hb : In64 b) (c : ¬ ((9223372036854775808 ≤ a) ↔ (9223372036854775808 ≤ b))) : wd (0 - sz a / sz b) = divZ a b := by
  have ia := sz_in ha
  unfold divZ
  rw [if_neg hb0]
  congr 1
  by_cases h : 9223372036854775808 ≤ a
  · have s1 := (sz_neg ha h).1
    have s2 := (sz_pos hb (fun k => c ⟨fun _ => k, fun _ => h⟩)).1
    rw [show sg a = - sz a by omega, ← s2, Int.neg_tdiv, Int.tdiv_eq_ediv_of_nonneg ia.1]; omega
  · have s1 := (sz_pos ha h).1
    have hbn : 9223372036854775808 ≤ b := by
      by_cases k : 9223372036854775808 ≤ b
      · exact k
      · exact absurd ⟨fun x => absurd x h, fun x => absurd x k⟩ c
    have s2 := (sz_neg hb hbn).1
    rw [← s1, show sg b = - sz b by omega, Int.tdiv_neg, Int.tdiv_eq_ediv_of_nonneg ia.1]; omega
theorem rem_pos {a b : Int} (hb0 : ¬ b = 0) (ha : In64 a) (hb : In64 b) (h : ¬ 9223372036854775808 ≤ a) : sz a % sz b = remZ a b := by
  have ia := sz_in ha
  have ib := sz_in hb
  have s1 := (sz_pos ha h).1
  unfold remZ
  rw [if_neg hb0, ← s1]
  have e : (sz a).tmod (sg b) = sz a % sz b := by
    by_cases k : 9223372036854775808 ≤ b
    · have s2 := (sz_neg hb k).1
      rw [show sg b = - sz b by omega, Int.tmod_neg, Int.tmod_eq_emod_of_nonneg ia.1]
    · have s2 := (sz_pos hb k).1
      rw [← s2, Int.tmod_eq_emod_of_nonneg ia.1]
  rw [e]
  have hz : sz b ≠ 0 := by
    intro z; apply hb0
    unfold In64 at hb; unfold sz at z; split at z <;> omega
  have h1 := Int.emod_nonneg (sz a) hz
  have h2 := Int.emod_lt_of_pos (sz a) (show 0 < sz b by unfold In64 at ib; omega)
  exact (wd_of ⟨h1, by unfold In64 at ib; omega⟩).symm
theorem rem_neg {a b : Int} (hb0 : ¬ b = 0) (ha : In64 a) (hb : In64 b) (h : 9223372036854775808 ≤ a) : wd (0 - sz a % sz b) = remZ a b := by
  have ia := sz_in ha
  have s1 := (sz_neg ha h).1
  unfold remZ
  rw [if_neg hb0]
  congr 1
  rw [show sg a = - sz a by omega, Int.neg_tmod]
  have e : (sz a).tmod (sg b) = sz a % sz b := by
    by_cases k : 9223372036854775808 ≤ b
    · have s2 := (sz_neg hb k).1
      rw [show sg b = - sz b by omega, Int.tmod_neg, Int.tmod_eq_emod_of_nonneg ia.1]
    · have s2 := (sz_pos hb k).1
      rw [← s2, Int.tmod_eq_emod_of_nonneg ia.1]
  rw [e]; omega

/-! ### the document's product, by its sizes -/
theorem prod_split {h l p : Int} (hp : p = h * 18446744073709551616 + l) (hl : In64 l) (hh : In64 h) : h = wd (p / 18446744073709551616) ∧ l = wd p := by
  unfold In64 at *; unfold wd; omega
/-- The upper half of a product whose sign is turned. -/
theorem turned_hi {h l p : Int} (hp : p = h * 18446744073709551616 + l) (hl : In64 l) (hh : In64 h) :
    (l = 0 → wd (18446744073709551615 - h + 1) = wd (-p / 18446744073709551616)) ∧ (¬ l = 0 → 18446744073709551615 - h = wd (-p / 18446744073709551616)) := by
  unfold In64 at *; unfold wd
  constructor
  · intro e; subst e; omega
  · intro e; omega

end Go.Proofs.Ytmbonfaeclbeaaa
