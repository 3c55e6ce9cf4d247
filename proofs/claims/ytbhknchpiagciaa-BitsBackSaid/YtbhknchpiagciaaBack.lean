/- P1.6 on bit vectors: pieces put and told. Plain Lean; nothing of the program. -/
import Derived.Test.YtbhknchpiagciaaBits
namespace Go.Proofs.Ytbhknchpiagciaa
open Go.RowKit
set_option linter.unusedVariables false

theorem field_none {w : BitVec 64} {lo n : Int} (h : ¬ (0 ≤ lo ∧ lo < 64 ∧ 1 ≤ n)) : fieldB w lo n = 0#64 := by
  by_cases hl : 0 ≤ lo ∧ lo < 64
  · refine ext64 fun i hi => ?_
    rw [field_bit w n hl, decide_eq_false (show ¬ (i : Int) < n by omega)]; simp
  · unfold fieldB; rw [if_neg hl]
theorem put_none {w v : BitVec 64} {lo n : Int} (h : ¬ (0 ≤ lo ∧ lo < 64 ∧ 1 ≤ n)) : putB w lo n v = w := by
  by_cases hl : 0 ≤ lo ∧ lo < 64
  · refine ext64 fun i hi => ?_
    rw [put_bit w n v hl, if_neg (by omega), decide_eq_true hi, Bool.true_and]
  · unfold putB; rw [if_neg hl]
theorem put_field (w : BitVec 64) (lo n : Int) : putB w lo n (fieldB w lo n) = w := by
  by_cases hl : 0 ≤ lo ∧ lo < 64
  · refine ext64 fun i hi => ?_
    rw [put_bit w n _ hl, decide_eq_true hi, Bool.true_and]
    split
    · rename_i h
      rw [field_bit w n hl, decide_eq_true (show i - lo.toNat < 64 by omega), decide_eq_true (show ((i - lo.toNat : Nat) : Int) < n by omega), Nat.sub_add_cancel h.1]; rfl
    · rfl
  · unfold putB; rw [if_neg hl]
theorem put_put_field (w v : BitVec 64) (lo n : Int) : putB (putB w lo n v) lo n (fieldB w lo n) = w := by
  by_cases hl : 0 ≤ lo ∧ lo < 64
  · refine ext64 fun i hi => ?_
    rw [put_bit _ n _ hl, decide_eq_true hi, Bool.true_and]
    split
    · rename_i h
      rw [field_bit w n hl, decide_eq_true (show i - lo.toNat < 64 by omega), decide_eq_true (show ((i - lo.toNat : Nat) : Int) < n by omega), Nat.sub_add_cancel h.1]; rfl
    · rename_i h
      rw [put_bit w n v hl, if_neg h, decide_eq_true hi, Bool.true_and]
  · unfold putB; rw [if_neg hl, if_neg hl]

theorem field_put {w v : BitVec 64} {lo n k : Int} (hl : 0 ≤ lo ∧ lo < 64) (hk : k = n ∧ n ≤ 64 - lo ∨ k = 64 - lo ∧ 64 - lo < n) : fieldB (putB w lo n v) lo n = v &&& maskB k := by
  refine ext64 fun i hi => ?_
  rw [field_bit _ n hl, BitVec.getLsbD_and, mask_bit, decide_eq_true hi, Bool.true_and, Bool.true_and]
  by_cases h : (i : Int) < k
  · rw [decide_eq_true h, decide_eq_true (show (i : Int) < n by omega), put_bit w n v hl, decide_eq_true (show i + lo.toNat < 64 by omega), if_pos (by omega), Nat.add_sub_cancel]; simp
  · rw [decide_eq_false h]
    by_cases h2 : (i : Int) < n
    · rw [bit_of_ge _ (show 64 ≤ i + lo.toNat by omega)]; simp
    · rw [decide_eq_false h2]; simp
theorem put_below {w v : BitVec 64} {lo n : Int} (hl : 0 ≤ lo ∧ lo < 64) : putB w lo n v &&& maskB lo = w &&& maskB lo := by
  refine ext64 fun i hi => ?_
  rw [BitVec.getLsbD_and, BitVec.getLsbD_and, mask_bit, put_bit w n v hl, decide_eq_true hi, Bool.true_and, Bool.true_and]
  by_cases h : (i : Int) < lo
  · rw [if_neg (by omega)]
  · rw [decide_eq_false h]; simp
theorem put_above {w v : BitVec 64} {lo n k : Int} (hl : 0 ≤ lo ∧ lo < 64) (hk : k = n ∧ n ≤ 64 - lo ∨ k = 64 - lo ∧ 64 - lo < n) (h1 : 1 ≤ n) :
    putB w lo n v >>> (lo + k).toNat = w >>> (lo + k).toNat := by
  refine ext64 fun i hi => ?_
  rw [BitVec.getLsbD_ushiftRight, BitVec.getLsbD_ushiftRight]
  by_cases h : (lo + k).toNat + i < 64
  · rw [put_bit w n v hl, decide_eq_true h, if_neg (by omega), Bool.true_and]
  · rw [bit_of_ge _ (by omega), bit_of_ge _ (by omega)]
theorem field_split {w : BitVec 64} {lo n k m : Int} (hl : 0 ≤ lo ∧ lo < 64) (hk : k = n ∧ n ≤ 64 - lo ∨ k = 64 - lo ∧ 64 - lo < n) (h1 : 1 ≤ m) (h2 : m < k) :
    fieldB w lo m + fieldB w (lo + m) (k - m) <<< m.toNat = fieldB w lo n := by
  have hl2 : 0 ≤ lo + m ∧ lo + m < 64 := by omega
  have hz : fieldB w lo m &&& fieldB w (lo + m) (k - m) <<< m.toNat = 0#64 := by
    refine ext64 fun i hi => ?_
    rw [BitVec.getLsbD_and, BitVec.getLsbD_shiftLeft, field_bit w m hl]
    by_cases h : (i : Int) < m
    · rw [decide_eq_true (show i < m.toNat by omega)]; simp
    · rw [decide_eq_false h]; simp
  rw [BitVec.add_eq_or_of_and_eq_zero _ _ hz]
  refine ext64 fun i hi => ?_
  rw [BitVec.getLsbD_or, BitVec.getLsbD_shiftLeft, field_bit w m hl, field_bit w (k - m) hl2, field_bit w n hl, decide_eq_true hi, Bool.true_and, Bool.true_and, Bool.true_and]
  by_cases h : (i : Int) < m
  · rw [decide_eq_true h, decide_eq_true (show i < m.toNat by omega), decide_eq_true (show (i : Int) < n by omega)]; simp
  · have e : i - m.toNat + (lo + m).toNat = i + lo.toNat := by omega
    rw [decide_eq_false h, decide_eq_false (show ¬ i < m.toNat by omega), decide_eq_true (show i - m.toNat < 64 by omega), e]
    by_cases h3 : (i : Int) < k
    · rw [decide_eq_true (show ((i - m.toNat : Nat) : Int) < k - m by omega), decide_eq_true (show (i : Int) < n by omega)]; simp
    · rw [decide_eq_false (show ¬ ((i - m.toNat : Nat) : Int) < k - m by omega)]
      by_cases h4 : (i : Int) < n
      · rw [bit_of_ge _ (show 64 ≤ i + lo.toNat by omega)]; simp
      · rw [decide_eq_false h4]; simp

end Go.Proofs.Ytbhknchpiagciaa
