/- Bytes of a word as pieces of eight bits. Plain Lean; nothing of the program. -/
import Derived.Test.YtoghdkhlliehoaaBits
import Derived.Test.YtoghdkhlliehoaaRdN
namespace Go.Proofs.Ytoghdkhlliehoaa
open Go.RowKit
set_option linter.unusedVariables false
set_option maxRecDepth 100000

theorem bit_V {x : Nat} (h : x < 2 ^ 64) (i : Nat) : (V (x : Int)).getLsbD i = x.testBit i := by
  have e : (V (x : Int)).toNat = x := by
    have := toNat_V (x := (x : Int)) (by unfold In64; omega)
    omega
  rw [BitVec.getLsbD, e]

/-- Byte k of a word. -/
theorem field_byte {v : Int} (hv : In64 v) {k : Nat} (hk : k < 8) : U (fieldB (V v) (8 * k) 8) = v / 256 ^ k % 256 := by
  obtain ⟨n, rfl⟩ : ∃ n : Nat, v = n := ⟨v.toNat, by have := hv.1; omega⟩
  have hn : n < 2 ^ 64 := by have := hv.2; omega
  have e : fieldB (V n) (8 * k) 8 = V ((n / 2 ^ (8 * k) % 2 ^ 8 : Nat) : Int) := ext64 fun i hi => by
    rw [field_bit (V n) 8 (by omega), bit_V hn, bit_V (by have := Nat.mod_lt (n / 2 ^ (8 * k)) (show 0 < 2 ^ 8 by omega); omega), Nat.testBit_mod_two_pow, Nat.testBit_div_two_pow, decide_eq_true hi, Bool.true_and]
    have e1 : (8 * (k : Int)).toNat = 8 * k := by omega
    rw [e1, Nat.add_comm]
    congr 1
    rw [decide_eq_decide]; omega
  rw [e, U_V (by have := Nat.mod_lt (n / 2 ^ (8 * k)) (show 0 < 2 ^ 8 by omega); unfold In64; omega)]
  have e2 : (2 : Nat) ^ (8 * k) = 256 ^ k := by rw [Nat.pow_mul]
  rw [e2, Int.natCast_emod, Int.natCast_ediv, Int.natCast_pow]
  rfl

/-- A byte put above a number. -/
theorem put_byte {v y : Int} {k : Nat} (hk : k < 8) (h0 : 0 ≤ v) (h1 : v < 256 ^ k) (y0 : 0 ≤ y) (y1 : y ≤ 255) : U (putB (V v) (8 * k) 8 (V y)) = v + 256 ^ k * y := by
  obtain ⟨n, rfl⟩ : ∃ n : Nat, v = n := ⟨v.toNat, by omega⟩
  obtain ⟨z, rfl⟩ : ∃ z : Nat, y = z := ⟨y.toNat, by omega⟩
  have hp : (256 : Nat) ^ k = 2 ^ (8 * k) := by rw [Nat.pow_mul]
  have hn : n < 2 ^ (8 * k) := by
    rw [← hp]
    have h2 : ((n : Nat) : Int) < ((256 ^ k : Nat) : Int) := by rw [Int.natCast_pow]; exact h1
    exact Int.ofNat_lt.1 h2
  have hz : z < 2 ^ 8 := by omega
  have hle : (2 : Nat) ^ (8 * k) * 2 ^ 8 ≤ 2 ^ 64 := by rw [← Nat.pow_add]; exact Nat.pow_le_pow_right (by omega) (by omega)
  have hs : z * 2 ^ (8 * k) + n < 2 ^ 64 := by
    have : (z + 1) * 2 ^ (8 * k) ≤ 2 ^ 8 * 2 ^ (8 * k) := Nat.mul_le_mul_right _ (by omega)
    rw [Nat.mul_comm (2 ^ 8)] at this
    rw [Nat.add_mul] at this
    omega
  have hn64 : n < 2 ^ 64 := by
    have : 2 ^ (8 * k) ≤ 2 ^ (8 * k) * 2 ^ 8 := Nat.le_mul_of_pos_right _ (by omega)
    omega
  have e : putB (V n) (8 * k) 8 (V z) = V ((z * 2 ^ (8 * k) + n : Nat) : Int) := ext64 fun i hi => by
    rw [put_bit (V n) 8 (V z) (by omega), bit_V hs, bit_V hn64, bit_V (by omega), decide_eq_true hi, Bool.true_and]
    have e1 : (8 * (k : Int)).toNat = 8 * k := by omega
    rw [e1, ← Nat.shiftLeft_eq, Nat.shiftLeft_add_eq_or_of_lt hn, Nat.testBit_or, Nat.testBit_shiftLeft]
    by_cases a : 8 * k ≤ i
    · have b : n.testBit i = false := Nat.testBit_lt_two_pow (Nat.lt_of_lt_of_le hn (Nat.pow_le_pow_right (by omega) a))
      by_cases c : (i : Int) - 8 * k < 8
      · rw [if_pos ⟨a, c⟩, b, decide_eq_true a]; simp
      · rw [if_neg (fun h => c h.2), b]
        have : z.testBit (i - 8 * k) = false := Nat.testBit_lt_two_pow (Nat.lt_of_lt_of_le hz (Nat.pow_le_pow_right (by omega) (by omega)))
        rw [this]; simp
    · rw [if_neg (fun h => a h.1), decide_eq_false a]; simp
  rw [e, U_V (by unfold In64; omega), ← hp]
  rw [Int.natCast_add, Int.natCast_mul, Int.natCast_pow, Int.mul_comm, Int.add_comm]
  rfl

theorem rdN_snoc (m : Int → Int) (x : Int) (k : Nat) : rdN m x (k + 1) = rdN m x k + 256 ^ k * m (x + k) := by
  induction k generalizing x with
  | zero => simp [rdN]
  | succ k ih =>
    show m x + 256 * rdN m (x + 1) (k + 1) = (m x + 256 * rdN m (x + 1) k) + 256 ^ (k + 1) * m (x + ((k + 1 : Nat) : Int))
    rw [ih (x + 1), show x + 1 + (k : Int) = x + ((k + 1 : Nat) : Int) by omega, Int.mul_add, Int.pow_succ, Int.mul_comm (256 ^ k) 256, Int.mul_assoc, Int.add_assoc]
/-- Bytes that are 0 behind the first ones add nothing. -/
theorem rdN_zeros {m : Int → Int} {x : Int} {c d : Nat} (h : ∀ i : Nat, c ≤ i → i < c + d → m (x + i) = 0) : rdN m x (c + d) = rdN m x c := by
  induction d with
  | zero => rfl
  | succ d ih => rw [← Nat.add_assoc, rdN_snoc, ih fun i h1 h2 => h i h1 (by omega), h (c + d) (by omega) (by omega), Int.mul_zero, Int.add_zero]

end Go.Proofs.Ytoghdkhlliehoaa
