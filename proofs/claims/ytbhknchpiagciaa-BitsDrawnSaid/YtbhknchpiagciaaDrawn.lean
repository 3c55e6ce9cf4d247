/- P1.6 on bit vectors: signs drawn out. Plain Lean; nothing of the program. -/
import Derived.Test.YtbhknchpiagciaaBits
namespace Go.Proofs.Ytbhknchpiagciaa
open Go.RowKit
set_option linter.unusedVariables false

theorem sext_sext {w : BitVec 64} {n : Int} (h : 1 ≤ n) : sextB (sextB w n) n = sextB w n := by
  refine ext64 fun i hi => ?_
  have h1 : ¬ n < 1 := by omega
  rw [sext_bit _ h1, sext_bit w h1, decide_eq_true hi, Bool.true_and, Bool.true_and]
  by_cases a : (i : Int) < n
  · rw [if_pos a, if_pos a]
  · rw [if_neg a, if_neg a, sext_bit w h1, decide_eq_true (show n.toNat - 1 < 64 by omega), if_pos (by omega), Bool.true_and]
theorem canon_sext {w : BitVec 64} {n : Int} (h : 1 ≤ n) : canonB (sextB w n) n = true := by
  unfold canonB; rw [decide_eq_true h, sext_sext h]; simp
theorem field_sext {w : BitVec 64} {n : Int} (h : 1 ≤ n) : fieldB (sextB w n) 0 n = fieldB w 0 n := by
  refine ext64 fun i hi => ?_
  have h1 : ¬ n < 1 := by omega
  rw [field_bit _ n (by omega), field_bit _ n (by omega), decide_eq_true hi, Bool.true_and, Bool.true_and]
  by_cases a : (i : Int) < n
  · rw [sext_bit w h1, show i + (0 : Int).toNat = i from rfl, decide_eq_true hi, if_pos a]; simp
  · rw [decide_eq_false a]; simp
theorem canon_is {w : BitVec 64} {n : Int} (h : 1 ≤ n) : canonB w n = (U (sextB w n) == U w) := by
  unfold canonB
  rw [decide_eq_true h, Bool.true_and]
  by_cases e : sextB w n = w
  · rw [decide_eq_true e, e]; simp
  · rw [decide_eq_false e]
    symm; simp only [beq_eq_false_iff_ne]
    intro h'; exact e (U_inj h')

theorem sext_bounds {w : BitVec 64} {r : Nat} (h : r < 64) : -(2 ^ r) ≤ S (sextB w (1 + (r : Int))) ∧ S (sextB w (1 + (r : Int))) < 2 ^ r := by
  have e : (64 - (1 + (r : Int))).toNat = 63 - r := by omega
  have h1 := sext_eq (w := w) (n := 1 + (r : Int)) (by omega) (by omega)
  rw [e] at h1
  rw [← h1, ← S_shr]
  have hb := S_in (w <<< (63 - r))
  unfold In63 at hb
  have hp : (2 : Int) ^ r * 2 ^ (63 - r) = 9223372036854775808 := by
    rw [← Int.pow_add, show r + (63 - r) = 63 by omega]; rfl
  have hq : (0 : Int) < 2 ^ (63 - r) := Int.pow_pos (by omega)
  constructor
  · rw [Int.le_ediv_iff_mul_le hq, Int.neg_mul, hp]; exact hb.1
  · rw [Int.ediv_lt_iff_lt_mul hq, hp]; exact hb.2

theorem sext_mod {w : BitVec 64} {n : Nat} (h1 : 1 ≤ n) (h2 : n < 64) : U (sextB w (n : Int) - w) % 2 ^ n = 0 := by
  have hm : (sextB w (n : Int)).toNat % 2 ^ n = w.toNat % 2 ^ n := by
    apply Nat.eq_of_testBit_eq
    intro i
    rw [Nat.testBit_mod_two_pow, Nat.testBit_mod_two_pow]
    by_cases a : i < n
    · have := sext_bit w (show ¬ (n : Int) < 1 by omega) i
      rw [decide_eq_true (show i < 64 by omega), if_pos (by omega), Bool.true_and] at this
      rw [BitVec.getLsbD, BitVec.getLsbD] at this
      rw [this]
    · simp [a]
  unfold U
  rw [BitVec.toNat_sub]
  have hd : (2 : Nat) ^ 64 = 2 ^ n * 2 ^ (64 - n) := by rw [← Nat.pow_add, show n + (64 - n) = 64 by omega]
  have key : (2 ^ 64 - w.toNat + (sextB w (n : Int)).toNat) % 2 ^ 64 % 2 ^ n = 0 := by
    rw [hd, Nat.mod_mul_right_mod, ← hd]
    have hw := w.isLt
    have a1 : 2 ^ n ∣ 2 ^ 64 := ⟨_, hd⟩
    have a2 : (2 ^ 64 - w.toNat + (sextB w (n : Int)).toNat + w.toNat) % 2 ^ n = ((sextB w (n : Int)).toNat) % 2 ^ n := by
      rw [show 2 ^ 64 - w.toNat + (sextB w (n : Int)).toNat + w.toNat = (sextB w (n : Int)).toNat + 2 ^ 64 by omega]
      rw [hd, Nat.add_mul_mod_self_left]
    rw [hm, Nat.add_mod] at a2
    have hp : 0 < 2 ^ n := Nat.pow_pos (by omega)
    have b1 := Nat.mod_lt (2 ^ 64 - w.toNat + (sextB w (n : Int)).toNat) hp
    have b2 := Nat.mod_lt w.toNat hp
    by_cases c : (2 ^ 64 - w.toNat + (sextB w (n : Int)).toNat) % 2 ^ n + w.toNat % 2 ^ n < 2 ^ n
    · rw [Nat.mod_eq_of_lt c] at a2; omega
    · rw [Nat.mod_eq_sub_mod (by omega), Nat.mod_eq_of_lt (by omega)] at a2; omega
  norm_cast

theorem and_low (a : Int) : ∃ q, bits .and .i64 a 4611686018427387903 = q ∧ 0 ≤ q ∧ q < 4611686018427387904 := by
  refine ⟨_, rfl, ?_⟩
  have h : (BitVec.ofInt 64 a &&& BitVec.ofInt 64 4611686018427387903).toNat < 4611686018427387904 := by
    rw [BitVec.toNat_and]
    exact Nat.lt_of_le_of_lt Nat.and_le_right (by decide)
  show 0 ≤ IntKind.i64.wrap ((BitVec.ofInt 64 a &&& BitVec.ofInt 64 4611686018427387903).toNat : Int) ∧ IntKind.i64.wrap ((BitVec.ofInt 64 a &&& BitVec.ofInt 64 4611686018427387903).toNat : Int) < _
  generalize (BitVec.ofInt 64 a &&& BitVec.ofInt 64 4611686018427387903).toNat = n at h
  rw [IntWalk.i64_in _ (by omega)]; omega

end Go.Proofs.Ytbhknchpiagciaa
