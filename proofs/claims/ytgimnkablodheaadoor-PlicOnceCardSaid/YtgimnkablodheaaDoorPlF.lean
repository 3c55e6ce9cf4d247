/- Layer 5, plain: the number of 32 bits, made from the greatest down, as the document's loops make it. Nothing of the program. -/
import Derived.Test.YtgimnkablodheaaDoorBv
namespace Go.Proofs.YtgimnkablodheaaDoor
set_option linter.unusedVariables false

/-- What the loop has made of the bits 31 down to 32 - n. -/
def bitsN (f : Nat → Bool) : Nat → Int
  | 0 => 0
  | n + 1 => 2 * bitsN f n + if f (31 - n) then 1 else 0
theorem bitsN_bd (f : Nat → Bool) (n : Nat) : 0 ≤ bitsN f n ∧ bitsN f n < 2 ^ n := by
  induction n with
  | zero => simp [bitsN]
  | succ n ih =>
    have e : (2 : Int) ^ (n + 1) = 2 * 2 ^ n := by rw [Int.pow_succ]; omega
    simp only [bitsN]
    split <;> omega
theorem bitsN_even {f : Nat → Bool} {n : Nat} (h : f (31 - n) = false) : bitsN f (n + 1) = 2 * bitsN f n := by simp [bitsN, h]
theorem bitsN_odd {f : Nat → Bool} {n : Nat} (h : f (31 - n) = true) : bitsN f (n + 1) = 2 * bitsN f n + 1 := by simp [bitsN, h]
/-- The number of 32 bits. -/
def bits32 (f : Nat → Bool) : Int := bitsN f 32
theorem bits32_bd (f : Nat → Bool) : 0 ≤ bits32 f ∧ bits32 f < 4294967296 := bitsN_bd f 32
/-- A step down: what was made of n + k bits, without the last k. -/
theorem bitsN_div (f : Nat → Bool) (n k : Nat) : bitsN f (n + k) / 2 ^ k = bitsN f n := by
  induction k with
  | zero => simp
  | succ k ih =>
    have e : (2 : Int) ^ (k + 1) = 2 * 2 ^ k := by rw [Int.pow_succ]; omega
    rw [e, ← Int.ediv_ediv_of_nonneg (by omega : (0 : Int) ≤ 2)]
    have h : bitsN f (n + (k + 1)) / 2 = bitsN f (n + k) := by
      rw [← Nat.add_assoc]
      simp only [bitsN]
      split <;> omega
    rw [h, ih]
/-- Bit s of that number. -/
theorem bits32_bit (f : Nat → Bool) {s : Nat} (hs : s < 32) : (bits32 f / 2 ^ s % 2 == 1) = f s := by
  unfold bits32
  have h := bitsN_div f (32 - s) s
  rw [show 32 - s + s = 32 by omega] at h
  rw [h, show 32 - s = 31 - s + 1 by omega]
  cases hf : f s with
  | true => rw [bitsN_odd (by rw [show 31 - (31 - s) = s by omega]; exact hf), beq_iff_eq]; omega
  | false => rw [bitsN_even (by rw [show 31 - (31 - s) = s by omega]; exact hf), beq_eq_false_iff_ne]; omega
/-- Numbers of the same bits. -/
theorem bits32_inj {f g : Nat → Bool} (h : bits32 f = bits32 g) {s : Nat} (hs : s < 32) : f s = g s := by
  rw [← bits32_bit f hs, ← bits32_bit g hs, h]

end Go.Proofs.YtgimnkablodheaaDoor
