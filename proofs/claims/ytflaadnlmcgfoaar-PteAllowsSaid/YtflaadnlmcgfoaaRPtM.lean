/- Layer 15: masks, in plain words: what the program's bit operations tell. Prepared ahead. -/
import Derived.Test.YtflaadnlmcgfoaaRPtA
namespace Go.Proofs.YtflaadnlmcgfoaaR
open Go.RowKit
set_option linter.unusedVariables false
set_option maxRecDepth 100000

theorem bitZ_zero (i : Nat) : bitZ 0 i = false := by unfold bitZ; rw [V_zero]; simp
/-- A mask of several bits: not nought just where one of them is 1. -/
theorem bz_set (x m : Int) (l : List Nat) (hl : ∀ i, i < 64 → bitZ m i = decide (i ∈ l)) (h64 : ∀ i, i ∈ l → i < 64) : (bits .and .u64 x m != 0) = l.any (bitZ x) := by
  cases h : l.any (bitZ x)
  · have : bits .and .u64 x m = 0 := bz_ext (bz_inA _ _) (by unfold In64; decide) fun i hi => by
      rw [bz_and, hl i hi, bitZ_zero]
      by_cases c : i ∈ l
      · have := List.any_eq_false.1 h i c
        simp at this; rw [this, Bool.false_and]
      · rw [decide_eq_false c, Bool.and_false]
    rw [this]; rfl
  · obtain ⟨i, hi, hb⟩ := List.any_eq_true.1 h
    rw [bne_iff_ne]
    intro e
    have := congrArg (fun z => bitZ z i) e
    have this : bitZ (bits .and .u64 x m) i = bitZ _ i := this
    rw [bz_and, hl i (h64 i hi), decide_eq_true hi, hb, bitZ_zero] at this
    cases this
theorem bz_setE (x m : Int) (l : List Nat) (hl : ∀ i, i < 64 → bitZ m i = decide (i ∈ l)) (h64 : ∀ i, i ∈ l → i < 64) : (bits .and .u64 x m == 0) = !l.any (bitZ x) := by
  have := bz_set x m l hl h64
  rw [bne] at this
  rw [← this, Bool.not_not]
/-- All of several bits. -/
theorem bz_all (x m : Int) (l : List Nat) (hm : In64 m) (hl : ∀ i, i < 64 → bitZ m i = decide (i ∈ l)) (h64 : ∀ i, i ∈ l → i < 64) : (bits .and .u64 x m == m) = l.all (bitZ x) := by
  cases h : l.all (bitZ x)
  · rw [beq_eq_false_iff_ne]
    intro e
    obtain ⟨i, hi, hb⟩ := List.all_eq_false.1 h
    have := congrArg (fun z => bitZ z i) e
    have this : bitZ (bits .and .u64 x m) i = bitZ _ i := this
    rw [bz_and, hl i (h64 i hi), decide_eq_true hi, Bool.and_true] at this
    exact hb this
  · rw [beq_iff_eq]
    refine bz_ext (bz_inA _ _) hm fun i hi => ?_
    rw [bz_and, hl i hi]
    by_cases c : i ∈ l
    · rw [List.all_eq_true.1 h i c, Bool.true_and]
    · rw [decide_eq_false c, Bool.and_false]
/-- Words that share no bit: joined is added. -/
theorem bz_orAdd {x y : Int} (k : Nat) (hx : In64 x) (hy : In64 y) (h0 : x % 2 ^ k = 0) (h1 : y < 2 ^ k) (hs : x + y < 18446744073709551616) : bits .or .u64 x y = x + y := by
  have hd : V x &&& V y = 0#64 := ext64 fun i hi => by
    rw [BitVec.getLsbD_and]
    have ex : (V x).getLsbD i = bitZ x i := rfl
    have ey : (V y).getLsbD i = bitZ y i := rfl
    rw [ex, ey]
    by_cases c : i < k
    · have : bitZ (x % 2 ^ k) i = bitZ x i := by rw [bz_mod hx, decide_eq_true c, Bool.true_and]
      rw [← this, h0, bitZ_zero]; simp
    · rw [bz_high hy h1 (by omega)]; simp
  rw [bits_or, ← BitVec.add_eq_or_of_and_eq_zero _ _ hd, ← V_add, U_V]
  unfold In64 at *; omega
/-- The lowest bits cleared. -/
theorem bz_clear {x : Int} (hx : In64 x) (m : Nat) (hm : m ≤ 64) (r : Int) (hr : r = 2 ^ m - 1) : bits .andNot .u64 x r = x - x % 2 ^ m := by
  have hp : (0 : Int) < 2 ^ m := by exact_mod_cast Nat.two_pow_pos m
  have h0 : 0 ≤ x % 2 ^ m := Int.emod_nonneg _ (by omega)
  have h2 : x % 2 ^ m ≤ x := by
    have := Int.emod_add_mul_ediv x (2 ^ m)
    have : 0 ≤ 2 ^ m * (x / 2 ^ m) := Int.mul_nonneg (by omega) (Int.ediv_nonneg hx.1 (by omega))
    omega
  have hq : In64 (x - x % 2 ^ m) := by unfold In64 at *; omega
  have ha := bz_mask hx m hm r hr
  -- x is what is cleared, and its lowest bits, joined
  have hj : bits .or .u64 (bits .andNot .u64 x r) (bits .and .u64 x r) = x := bz_ext (bz_inO _ _) hx fun i hi => by
    rw [bz_or, bz_andNot _ _ hi, bz_and]; cases bitZ x i <;> cases bitZ r i <;> rfl
  have hd : V (bits .andNot .u64 x r) &&& V (bits .and .u64 x r) = 0#64 := ext64 fun i hi => by
    rw [BitVec.getLsbD_and]
    have e1 : (V (bits .andNot .u64 x r)).getLsbD i = bitZ (bits .andNot .u64 x r) i := rfl
    have e2 : (V (bits .and .u64 x r)).getLsbD i = bitZ (bits .and .u64 x r) i := rfl
    rw [e1, e2, bz_andNot _ _ hi, bz_and]
    cases bitZ x i <;> cases bitZ r i <;> simp
  rw [bits_or, ← BitVec.add_eq_or_of_and_eq_zero _ _ hd, ← V_add] at hj
  have hs : U (V (bits .andNot .u64 x r + bits .and .u64 x r)) = (bits .andNot .u64 x r + bits .and .u64 x r) % 18446744073709551616 := U_mod _
  rw [hs, ha] at hj
  have b1 := bz_inN x r
  have hlt : x % 2 ^ m < 18446744073709551616 := by unfold In64 at hx; omega
  unfold In64 at *
  omega
/-- What lies above a place. -/
theorem bz_shr0 {x : Int} (hx : In64 x) (k : Nat) : (x / 2 ^ k == 0) = decide (x < 2 ^ k) := by
  have hp : (0 : Int) < 2 ^ k := by exact_mod_cast Nat.two_pow_pos k
  have : (x / 2 ^ k = 0) ↔ x < 2 ^ k := by
    constructor
    · intro h
      have := Int.emod_add_mul_ediv x (2 ^ k)
      have h1 : x % 2 ^ k < 2 ^ k := Int.emod_lt_of_pos _ hp
      rw [h, Int.mul_zero] at this; omega
    · intro h; exact Int.ediv_eq_zero_of_lt hx.1 h
  by_cases c : x < 2 ^ k
  · rw [decide_eq_true c, this.2 c]; rfl
  · rw [decide_eq_false c, beq_eq_false_iff_ne]; exact fun e => c (this.1 e)
end Go.Proofs.YtflaadnlmcgfoaaR
