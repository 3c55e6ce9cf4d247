/- Numbers by their bits: told, put together, compared; words of layouts by their bits. Plain Lean; nothing of the program. -/
import Derived.Test.YtehlihhnkojjeaaDoorFv
namespace Go.Proofs.YtehlihhnkojjeaaDoor
open Go.RowKit
set_option linter.unusedVariables false

/-- Whether bit q of a number is 1 (of one below 0: of its two's complement). -/
def tb (x : Int) (q : Nat) : Bool := x / 2 ^ q % 2 == 1
theorem tb_div (x : Int) (s q : Nat) : tb (x / 2 ^ s) q = tb x (s + q) := by
  unfold tb; rw [Int.ediv_ediv_of_nonneg (Int.le_of_lt (two_pow_pos s)), ← Int.pow_add]
theorem tb_mod (x : Int) (m q : Nat) : tb (x % 2 ^ m) q = (decide (q < m) && tb x q) := by
  by_cases h : q < m
  · rw [decide_eq_true h, Bool.true_and]
    unfold tb
    obtain ⟨r, rfl⟩ : ∃ r, m = q + (r + 1) := ⟨m - q - 1, by omega⟩
    rw [Int.pow_add, emod_ediv_pow, Int.emod_emod_of_dvd _ ⟨2 ^ r, by rw [Int.pow_succ, Int.mul_comm]⟩]
  · rw [decide_eq_false h, Bool.false_and]
    unfold tb
    have h1 := two_pow_pos m
    have h2 := Int.emod_nonneg x (show (2 : Int) ^ m ≠ 0 by omega)
    have h3 := Int.emod_lt_of_pos x h1
    have h4 : (2 : Int) ^ m ≤ 2 ^ q := by exact_mod_cast Nat.pow_le_pow_right (by omega) (show m ≤ q by omega)
    rw [Int.ediv_eq_zero_of_lt h2 (by omega)]; rfl
theorem tb_mul (x : Int) (s q : Nat) : tb (x * 2 ^ s) q = (decide (s ≤ q) && tb x (q - s)) := by
  by_cases h : s ≤ q
  · obtain ⟨r, rfl⟩ : ∃ r, q = s + r := ⟨q - s, by omega⟩
    rw [decide_eq_true h, Bool.true_and, Nat.add_sub_cancel_left, ← tb_div, Int.mul_ediv_cancel _ (by have := two_pow_pos s; omega)]
  · rw [decide_eq_false h, Bool.false_and]
    unfold tb
    obtain ⟨r, rfl⟩ : ∃ r, s = q + (r + 1) := ⟨s - q - 1, by omega⟩
    rw [Int.pow_add, ← Int.mul_assoc, Int.mul_right_comm, Int.mul_ediv_cancel _ (by have := two_pow_pos q; omega), Int.pow_succ, ← Int.mul_assoc, Int.mul_emod_left]; rfl
theorem tb_wrap {x : Int} {q : Nat} (h : q < 32) : tb (IntKind.u32.wrap x) q = tb x q := by
  rw [wrap32, show (4294967296 : Int) = 2 ^ 32 from rfl, tb_mod, decide_eq_true h, Bool.true_and]
theorem fldZ_tb (x hi lo : Int) (h : 0 ≤ lo ∧ lo ≤ hi ∧ hi ≤ 31) (q : Nat) : tb (fldZ x hi lo) q = (decide (q < (hi - lo + 1).toNat) && tb x (lo.toNat + q)) := by
  rw [fldZ_eq h, tb_mod, tb_div]

/-! ### words as bit vectors -/
def V3 (x : Int) : BitVec 32 := BitVec.ofInt 32 x
theorem V3_toNat {x : Int} (h : In32 x) : ((V3 x).toNat : Int) = x := by
  unfold In32 at h; unfold V3; rw [BitVec.toNat_ofInt]; omega
theorem tb_bv (b : BitVec 32) (q : Nat) : tb (b.toNat : Int) q = b.getLsbD q := by
  unfold tb
  rw [BitVec.getLsbD, Nat.testBit_eq_decide_div_mod_eq, Bool.eq_iff_iff, beq_iff_eq, decide_eq_true_eq]
  have e : ((b.toNat : Int) / 2 ^ q % 2) = ((b.toNat / 2 ^ q % 2 : Nat) : Int) := by norm_cast
  rw [e]; omega
theorem V3_bit (x : Int) (q : Nat) : (V3 x).getLsbD q = (decide (q < 32) && tb x q) := by
  rw [← tb_bv]
  have e : ((V3 x).toNat : Int) = x % 2 ^ 32 := by unfold V3; rw [BitVec.toNat_ofInt]; omega
  rw [e, tb_mod]
theorem ext32 {x y : Int} (hx : In32 x) (hy : In32 y) (h : ∀ q, q < 32 → tb x q = tb y q) : x = y := by
  have e : V3 x = V3 y := BitVec.eq_of_getLsbD_eq fun q hq => by rw [V3_bit, V3_bit, h q hq]
  rw [← V3_toNat hx, ← V3_toNat hy, e]
theorem bv_in32 (b : BitVec 32) : In32 (b.toNat : Int) := by have := b.isLt; unfold In32; omega
theorem wrap_bv (b : BitVec 32) : IntKind.u32.wrap (b.toNat : Int) = (b.toNat : Int) := by
  have := bv_in32 b; unfold In32 at this; rw [wrap32]; omega
theorem or_bv (x y : Int) : bits .or .u32 x y = ((V3 x ||| V3 y).toNat : Int) := by
  show IntKind.u32.wrap ((V3 x ||| V3 y).toNat : Int) = _
  exact wrap_bv _
theorem and_bv (x y : Int) : bits .and .u32 x y = ((V3 x &&& V3 y).toNat : Int) := by
  show IntKind.u32.wrap ((V3 x &&& V3 y).toNat : Int) = _
  exact wrap_bv _
theorem andNot_bv (x y : Int) : bits .andNot .u32 x y = ((V3 x &&& ~~~ V3 y).toNat : Int) := by
  show IntKind.u32.wrap ((V3 x &&& ~~~ V3 y).toNat : Int) = _
  exact wrap_bv _
theorem or_in (x y : Int) : In32 (bits .or .u32 x y) := by rw [or_bv]; exact bv_in32 _
theorem and_in (x y : Int) : In32 (bits .and .u32 x y) := by rw [and_bv]; exact bv_in32 _
theorem andNot_in (x y : Int) : In32 (bits .andNot .u32 x y) := by rw [andNot_bv]; exact bv_in32 _
theorem tb_or {x y : Int} {q : Nat} (h : q < 32) : tb (bits .or .u32 x y) q = (tb x q || tb y q) := by
  rw [or_bv, tb_bv, BitVec.getLsbD_or, V3_bit, V3_bit, decide_eq_true h]; simp
theorem tb_and {x y : Int} {q : Nat} (h : q < 32) : tb (bits .and .u32 x y) q = (tb x q && tb y q) := by
  rw [and_bv, tb_bv, BitVec.getLsbD_and, V3_bit, V3_bit, decide_eq_true h]; simp
theorem tb_andNot {x y : Int} {q : Nat} (h : q < 32) : tb (bits .andNot .u32 x y) q = (tb x q && !tb y q) := by
  rw [andNot_bv, tb_bv, BitVec.getLsbD_and, BitVec.getLsbD_not, V3_bit, V3_bit, decide_eq_true h]; simp

/-! ### words of layouts -/
/-- The pieces that have bit q. -/
def Lay.has (L : Lay) (q : Nat) (j : Nat) : Bool := decide (L.l j ≤ q ∧ (q : Int) ≤ L.h j)
theorem Lay.put_in (L : Lay) (n : Int) (m : Nat) : In32 (L.put n m) := by
  cases m with
  | zero => unfold Lay.put In32; omega
  | succ m => unfold Lay.put; exact or_in _ _
theorem piece_tb {r h l : Int} (hh : 0 ≤ l ∧ l ≤ h ∧ h ≤ 31) {q : Nat} (hq : q < 32) :
    tb (IntKind.u32.wrap (fldZ (IntKind.u32.wrap r) (h - l) 0 * 2 ^ l.toNat)) q = (decide (l ≤ q ∧ (q : Int) ≤ h) && tb r (q - l.toNat)) := by
  rw [tb_wrap hq, tb_mul, fldZ_tb _ _ _ (by omega)]
  by_cases a : l.toNat ≤ q
  · rw [decide_eq_true a, Bool.true_and, show (0 : Int).toNat + (q - l.toNat) = q - l.toNat by simp, tb_wrap (by omega)]
    congr 1
    rw [decide_eq_decide]; omega
  · rw [decide_eq_false a, decide_eq_false (show ¬ (l ≤ q ∧ (q : Int) ≤ h) by omega)]; rfl
/-- Bit q of what the m lowest pieces make. -/
theorem Lay.put_tb {L : Lay} (hL : L.Ok) (n : Int) {q : Nat} (hq : q < 32) : ∀ m, m ≤ L.ps.length →
    tb (L.put n m) q = (List.range m).any fun i => L.has q (L.ps.length - 1 - i) && tb (L.rest n i) (q - (L.l (L.ps.length - 1 - i)).toNat) := by
  intro m
  induction m with
  | zero => intro _; show tb 0 q = false; unfold tb; rw [Int.zero_ediv]; rfl
  | succ m ih =>
    intro hm
    rw [List.range_succ, List.any_append, ← ih (by omega)]
    show tb (bits .or .u32 (L.put n m) (IntKind.u32.wrap (fldZ (IntKind.u32.wrap (L.rest n m)) (L.h (L.ps.length - 1 - m) - L.l (L.ps.length - 1 - m)) 0 * 2 ^ (L.l (L.ps.length - 1 - m)).toNat))) q = _
    rw [tb_or hq, piece_tb (hL.in31 _ (by omega)) hq]
    simp [Lay.has]
theorem Lay.word_in (L : Lay) (n : Int) : In32 (L.word n) := L.put_in n _
theorem rest_neg (L : Lay) (m : Nat) : L.rest (-1) m = -1 := by
  have h : ∀ k : Nat, (-1 : Int) / 2 ^ k = -1 := fun k => by
    have hp := two_pow_pos k
    have h1 := (Int.le_ediv_iff_mul_le (a := -1) (b := -1) hp).2 (by omega)
    have h2 := (Int.ediv_lt_iff_lt_mul (a := -1) (b := 0) hp).2 (by omega)
    omega
  induction m with
  | zero => exact h _
  | succ m ih => show L.rest (-1) m / _ = -1; rw [ih]; exact h _
theorem tb_neg (q : Nat) : tb (-1) q = true := by
  have h := rest_neg ⟨[], q, false⟩ 0
  have h2 : (-1 : Int) / 2 ^ q = -1 := h
  unfold tb; rw [h2]; rfl
/-- The word of all bits of the form. -/
theorem Lay.mask_tb {L : Lay} (hL : L.Ok) {q : Nat} (hq : q < 32) : tb (L.word (-1)) q = (List.range L.ps.length).any fun i => L.has q (L.ps.length - 1 - i) := by
  unfold Lay.word
  rw [L.put_tb hL (-1) hq _ (Nat.le_refl _)]
  congr 1; funext i
  rw [rest_neg, tb_neg, Bool.and_true]
/-- B: no bits beside the form's. -/
theorem Lay.word_mask {L : Lay} (hL : L.Ok) (n : Int) : bits .andNot .u32 (L.word n) (L.word (-1)) = 0 := by
  refine ext32 (andNot_in _ _) (by unfold In32; omega) fun q hq => ?_
  have z : tb 0 q = false := by unfold tb; rw [Int.zero_ediv]; rfl
  rw [tb_andNot hq, z, L.mask_tb hL hq]
  unfold Lay.word
  rw [L.put_tb hL n hq _ (Nat.le_refl _)]
  cases h : (List.range L.ps.length).any fun i => L.has q (L.ps.length - 1 - i)
  · have : ((List.range L.ps.length).any fun i => L.has q (L.ps.length - 1 - i) && tb (L.rest n i) (q - (L.l (L.ps.length - 1 - i)).toNat)) = false := by
      rw [List.any_eq_false] at h ⊢
      intro i hi
      have := h i hi
      simp only [Bool.not_eq_true] at this ⊢
      rw [this]; rfl
    rw [this]; rfl
  · simp
/-- Fields of words that are alike there. -/
theorem fldZ_congr {x y hi lo : Int} (h : ∀ q : Nat, lo ≤ q → (q : Int) ≤ hi → tb x q = tb y q) : fldZ x hi lo = fldZ y hi lo := by
  by_cases g : 0 ≤ lo ∧ lo ≤ hi ∧ hi ≤ 31
  · refine ext32 (fldZ_in32 _ _ _) (fldZ_in32 _ _ _) fun q hq => ?_
    rw [fldZ_tb _ _ _ g, fldZ_tb _ _ _ g]
    by_cases c : q < (hi - lo + 1).toNat
    · rw [h (lo.toNat + q) (by omega) (by omega)]
    · rw [decide_eq_false c]; rfl
  · rw [fldZ_out g, fldZ_out g]
/-- Numbers of words whose bits are alike where the form has bits. -/
theorem Lay.num_congr {L : Lay} (hL : L.Ok) {x y : Int} (h : ∀ j q : Nat, j < L.ps.length → L.l j ≤ q → (q : Int) ≤ L.h j → tb x q = tb y q) : ∀ k, k ≤ L.ps.length → L.num x k = L.num y k := by
  intro k
  induction k with
  | zero =>
    intro _
    have g := hL.in31 0 hL.one
    have e : fldZ x (L.h 0) (L.h 0) = fldZ y (L.h 0) (L.h 0) := fldZ_congr fun q h1 h2 => h 0 q hL.one (by omega) h2
    show (if L.neg x then (-1 : Int) else 0) = if L.neg y then (-1 : Int) else 0
    unfold Lay.neg; rw [e]
  | succ k ih =>
    intro hk
    show L.num x k * _ + fldZ x (L.h k) (L.l k) = L.num y k * _ + fldZ y (L.h k) (L.l k)
    rw [ih (by omega), fldZ_congr fun q h1 h2 => h k q (by omega) h1 h2]
theorem Lay.number_congr {L : Lay} (hL : L.Ok) {x y : Int} (h : ∀ j q : Nat, j < L.ps.length → L.l j ≤ q → (q : Int) ≤ L.h j → tb x q = tb y q) : L.number x = L.number y := by
  unfold Lay.number; rw [L.num_congr hL h _ (Nat.le_refl _)]
theorem Lay.mask_on {L : Lay} (hL : L.Ok) {j q : Nat} (hj : j < L.ps.length) (h1 : L.l j ≤ q) (h2 : (q : Int) ≤ L.h j) : tb (L.word (-1)) q = true := by
  have g := hL.in31 j hj
  rw [L.mask_tb hL (by omega), List.any_eq_true]
  refine ⟨L.ps.length - 1 - j, List.mem_range.2 (by omega), ?_⟩
  rw [show L.ps.length - 1 - (L.ps.length - 1 - j) = j by omega]
  unfold Lay.has; exact decide_eq_true ⟨h1, h2⟩
/-- A: the other bits are no matter. -/
theorem Lay.other_bits {L : Lay} (hL : L.Ok) (v x : Int) : L.number (bits .or .u32 v (bits .andNot .u32 x (L.word (-1)))) = L.number v := by
  refine L.number_congr hL fun j q hj h1 h2 => ?_
  have g := hL.in31 j hj
  rw [tb_or (by omega), tb_andNot (by omega), L.mask_on hL hj h1 h2]; simp
/-- What is left of a word's number ahead of a piece. -/
theorem Lay.rest_number {L : Lay} (hL : L.Ok) (x : Int) : ∀ m, m ≤ L.ps.length → L.rest (L.number x) m = L.num x (L.ps.length - m) := by
  intro m
  induction m with
  | zero =>
    intro _
    show L.number x / 2 ^ L.nt = _
    unfold Lay.number
    rw [Int.mul_ediv_cancel _ (by have := two_pow_pos L.nt; omega)]; rfl
  | succ m ih =>
    intro hm
    show L.rest (L.number x) m / 2 ^ L.len (L.ps.length - 1 - m) = _
    rw [ih (by omega)]
    obtain ⟨j, hj⟩ : ∃ j, L.ps.length - m = j + 1 := ⟨L.ps.length - m - 1, by omega⟩
    have hj1 : L.ps.length - 1 - m = j := by omega
    have hj2 : L.ps.length - (m + 1) = j := by omega
    rw [hj, hj1, hj2]
    have g := fldZ_lt (x := x) (hL.in31 j (by omega))
    show (L.num x j * 2 ^ L.len j + fldZ x (L.h j) (L.l j)) / 2 ^ L.len j = L.num x j
    unfold Lay.len
    have p := two_pow_pos (L.h j - L.l j + 1).toNat
    rw [Int.mul_comm, Int.mul_add_ediv_left _ _ (by omega), Int.ediv_eq_zero_of_lt g.1 g.2, Int.add_zero]
/-- C: the word of a word's number are the word's bits of the form. -/
theorem Lay.word_number {L : Lay} (hL : L.Ok) (x : Int) : L.word (L.number x) = bits .and .u32 x (L.word (-1)) := by
  refine ext32 (L.word_in _) (and_in _ _) fun q hq => ?_
  rw [tb_and hq, L.mask_tb hL hq]
  unfold Lay.word
  rw [L.put_tb hL _ hq _ (Nat.le_refl _), Bool.and_comm, Bool.eq_iff_iff]
  have key : ∀ i, i < L.ps.length → L.has q (L.ps.length - 1 - i) = true → tb (L.rest (L.number x) i) (q - (L.l (L.ps.length - 1 - i)).toNat) = tb x q := by
    intro i hi hh
    rw [L.rest_number hL x i (by omega)]
    obtain ⟨j, hj⟩ : ∃ j, L.ps.length - i = j + 1 := ⟨L.ps.length - i - 1, by omega⟩
    have hj1 : L.ps.length - 1 - i = j := by omega
    rw [hj1] at hh ⊢
    rw [hj]
    unfold Lay.has at hh
    have hh := of_decide_eq_true hh
    have g := hL.in31 j (by omega)
    have f := fldZ_lt (x := x) g
    have e : (L.num x j * 2 ^ (L.h j - L.l j + 1).toNat + fldZ x (L.h j) (L.l j)) % 2 ^ (L.h j - L.l j + 1).toNat = fldZ x (L.h j) (L.l j) := by
      rw [Int.add_comm, Int.add_mul_emod_self_right, Int.emod_eq_of_lt f.1 f.2]
    have e2 := tb_mod (L.num x j * 2 ^ (L.h j - L.l j + 1).toNat + fldZ x (L.h j) (L.l j)) (L.h j - L.l j + 1).toNat (q - (L.l j).toNat)
    rw [e, fldZ_tb _ _ _ g, decide_eq_true (show q - (L.l j).toNat < (L.h j - L.l j + 1).toNat by omega), Bool.true_and, Bool.true_and, show (L.l j).toNat + (q - (L.l j).toNat) = q by omega] at e2
    exact e2.symm
  simp only [List.any_eq_true, List.mem_range, Bool.and_eq_true]
  constructor
  · rintro ⟨i, hi, hh, ht⟩
    exact ⟨⟨i, hi, hh⟩, by rw [← key i hi hh]; exact ht⟩
  · rintro ⟨⟨i, hi, hh⟩, ht⟩
    exact ⟨i, hi, hh, by rw [key i hi hh]; exact ht⟩
theorem Lay.fits_number {L : Lay} (hL : L.Ok) (x : Int) : L.number (L.word (L.number x)) = L.number x := by
  rw [L.word_number hL]
  refine L.number_congr hL fun j q hj h1 h2 => ?_
  have g := hL.in31 j hj
  rw [tb_and (by omega), L.mask_on hL hj h1 h2, Bool.and_true]

end Go.Proofs.YtehlihhnkojjeaaDoor
