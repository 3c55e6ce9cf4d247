/- Words of 64 bits, bit by bit (plain). -/
import Derived.Test.YtflaadnlmcgfoaaRHa
namespace Go.Proofs.YtflaadnlmcgfoaaR
open Go.RowKit
set_option linter.unusedVariables false
set_option maxRecDepth 100000

theorem bz_in {op : BinOp} {x y : Int} (h : op = .and ∨ op = .or ∨ op = .andNot) : In64 (bits op .u64 x y) := by
  rcases h with rfl | rfl | rfl
  · rw [bits_and]; exact U_in _
  · rw [bits_or]; exact U_in _
  · rw [bits_andNot]; exact U_in _
theorem bz_inA (x y : Int) : In64 (bits .and .u64 x y) := bz_in (.inl rfl)
theorem bz_inO (x y : Int) : In64 (bits .or .u64 x y) := bz_in (.inr (.inl rfl))
theorem bz_inN (x y : Int) : In64 (bits .andNot .u64 x y) := bz_in (.inr (.inr rfl))
theorem bz_ext {x y : Int} (hx : In64 x) (hy : In64 y) (h : ∀ i, i < 64 → bitZ x i = bitZ y i) : x = y := by
  rw [← U_V hx, ← U_V hy, ext64 (a := V x) (b := V y) h]
theorem bz_and (x y : Int) (i : Nat) : bitZ (bits .and .u64 x y) i = (bitZ x i && bitZ y i) := by
  unfold bitZ; rw [bits_and, V_U, BitVec.getLsbD_and]
theorem bz_or (x y : Int) (i : Nat) : bitZ (bits .or .u64 x y) i = (bitZ x i || bitZ y i) := by
  unfold bitZ; rw [bits_or, V_U, BitVec.getLsbD_or]
theorem bz_andNot (x y : Int) {i : Nat} (hi : i < 64) : bitZ (bits .andNot .u64 x y) i = (bitZ x i && !bitZ y i) := by
  unfold bitZ; rw [bits_andNot, V_U, BitVec.getLsbD_and, BitVec.getLsbD_not, decide_eq_true hi, Bool.true_and]
/-- A word's bit, by division. -/
theorem bz_div {x : Int} (hx : In64 x) (i : Nat) : bitZ x i = decide (x / 2 ^ i % 2 = 1) := by
  unfold bitZ
  rw [bit_div]
  have e : ((V x).toNat : Int) = x := toNat_V hx
  generalize (V x).toNat = n at e
  subst e
  have : n / 2 ^ i % 2 = ((n : Int) / 2 ^ i % 2).toNat := by
    have : ((n / 2 ^ i % 2 : Nat) : Int) = (n : Int) / 2 ^ i % 2 := by push_cast; rfl
    omega
  rw [this]
  have h0 : 0 ≤ (n : Int) / 2 ^ i % 2 := Int.emod_nonneg _ (by decide)
  rw [decide_eq_decide]; omega
theorem bz_pow (k i : Nat) (hi : i < 64) : bitZ (2 ^ k) i = decide (k = i) := by
  unfold bitZ
  rw [V_pow, BitVec.getLsbD_twoPow]
  by_cases h : k = i
  · subst h; simp [hi]
  · simp [h]
theorem bz_ne (x m : Int) (k : Nat) (hk : k < 64) (hm : m = 2 ^ k) : (bits .and .u64 x m != 0) = bitZ x k := by
  subst hm; rw [bne, and_bit k hk, Bool.not_not]
theorem bz_eq (x m : Int) (k : Nat) (hk : k < 64) (hm : m = 2 ^ k) : (bits .and .u64 x m == 0) = !bitZ x k := by
  subst hm; exact and_bit k hk
/-- Bits of what is nought from there on. -/
theorem bz_high {x : Int} (hx : In64 x) {m : Nat} (h : x < 2 ^ m) {i : Nat} (hi : m ≤ i) : bitZ x i = false := by
  rw [bz_div hx, decide_eq_false_iff_not]
  have h2 : (2 : Int) ^ m ≤ 2 ^ i := two_pow_le hi
  have : x / 2 ^ i = 0 := Int.ediv_eq_zero_of_lt hx.1 (by omega)
  rw [this]; decide
/-- The lowest bits. -/
theorem bz_mod {x : Int} (hx : In64 x) (m i : Nat) : bitZ (x % 2 ^ m) i = (decide (i < m) && bitZ x i) := by
  have hp : (0 : Int) < 2 ^ m := by exact_mod_cast Nat.two_pow_pos m
  have h0 : 0 ≤ x % 2 ^ m := Int.emod_nonneg _ (by omega)
  have h1 : x % 2 ^ m < 2 ^ m := Int.emod_lt_of_pos _ hp
  have h2 : x % 2 ^ m ≤ x := by
    have := Int.emod_add_mul_ediv x (2 ^ m)
    have : 0 ≤ 2 ^ m * (x / 2 ^ m) := Int.mul_nonneg (by omega) (Int.ediv_nonneg hx.1 (by omega))
    omega
  have hi64 : In64 (x % 2 ^ m) := by unfold In64 at *; omega
  by_cases h : i < m
  · rw [bz_div hi64, bz_div hx, decide_eq_true h, Bool.true_and]
    have e : (2 : Int) ^ m = 2 ^ i * 2 ^ (m - i) := by rw [← Int.pow_add]; congr 1; omega
    obtain ⟨j, hj⟩ : ∃ j, m - i = j + 1 := ⟨m - i - 1, by omega⟩
    have : x % 2 ^ m / 2 ^ i % 2 = x / 2 ^ i % 2 := by
      obtain ⟨n, rfl⟩ : ∃ n : Nat, x = (n : Int) := ⟨x.toNat, by have := hx.1; omega⟩
      have : n % 2 ^ m / 2 ^ i % 2 = n / 2 ^ i % 2 := by
        have e : 2 ^ m = 2 ^ i * 2 ^ (m - i) := by rw [← Nat.pow_add]; congr 1; omega
        rw [e, Nat.mod_mul_right_div_self, hj, Nat.pow_succ, Nat.mul_comm, Nat.mod_mul_right_mod]
      exact_mod_cast this
    rw [this]
  · rw [bz_high hi64 h1 (by omega), decide_eq_false h, Bool.false_and]
theorem bz_mask {x : Int} (hx : In64 x) (m : Nat) (hm : m ≤ 64) (r : Int) (hr : r = 2 ^ m - 1) : bits .and .u64 x r = x % 2 ^ m := by
  subst hr
  have hp : (0 : Int) < 2 ^ m := by exact_mod_cast Nat.two_pow_pos m
  have h64 : (2 : Int) ^ m ≤ 2 ^ 64 := two_pow_le hm
  have hr64 : In64 ((2 : Int) ^ m - 1) := by unfold In64; omega
  have hi64 : In64 (x % 2 ^ m) := by
    have h0 : 0 ≤ x % 2 ^ m := Int.emod_nonneg _ (by omega)
    have h1 : x % 2 ^ m < 2 ^ m := Int.emod_lt_of_pos _ hp
    unfold In64; omega
  refine bz_ext (bz_inA _ _) hi64 fun i hi => ?_
  rw [bz_and, bz_mod hx]
  have : bitZ ((2 : Int) ^ m - 1) i = decide (i < m) := by
    rw [bz_div hr64]
    by_cases h : i < m
    · rw [decide_eq_true h, decide_eq_true_eq]
      obtain ⟨j, hj⟩ : ∃ j, m = i + (j + 1) := ⟨m - i - 1, by omega⟩
      have e : (2 : Int) ^ m - 1 = 2 ^ i * (2 * 2 ^ j - 1) + (2 ^ i - 1) := by
        have : (2 : Int) ^ m = 2 ^ i * (2 * 2 ^ j) := by rw [hj, Int.pow_add, Int.pow_succ, Int.mul_comm ((2 : Int) ^ j) 2]
        rw [this, Int.mul_sub, Int.mul_one]; omega
      have hpi : (0 : Int) < 2 ^ i := by exact_mod_cast Nat.two_pow_pos i
      have : ((2 : Int) ^ m - 1) / 2 ^ i = 2 * 2 ^ j - 1 := by
        rw [e, Int.mul_comm, Int.add_comm, Int.add_mul_ediv_right _ _ (by omega), Int.ediv_eq_zero_of_lt (by omega) (by omega), Int.zero_add]
      rw [this]; omega
    · rw [decide_eq_false h, decide_eq_false_iff_not]
      have h2 : (2 : Int) ^ m ≤ 2 ^ i := two_pow_le (by omega)
      rw [Int.ediv_eq_zero_of_lt (by omega) (by omega)]; decide
  rw [this, Bool.and_comm]
end Go.Proofs.YtflaadnlmcgfoaaR
