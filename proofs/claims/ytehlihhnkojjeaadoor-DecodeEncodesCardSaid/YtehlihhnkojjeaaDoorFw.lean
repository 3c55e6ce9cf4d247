/- Words of 32 bits: fields told, bits told, put side by side. Plain Lean; nothing of the program. -/
import Derived.WalkKit
import Derived.ProofKit
namespace Go.Proofs.YtehlihhnkojjeaaDoor
open Go.RowKit
set_option linter.unusedVariables false

/-- A number that a word of 32 bits can hold. -/
def In32 (x : Int) : Prop := 0 ≤ x ∧ x < 4294967296
theorem of_wf32 {x : Int} (h : (Lit.int .u32 x).wf = true) : In32 x := by
  have h2 := h
  simp [Lit.wf, IntKind.min, IntKind.max, IntKind.signed, IntKind.bits] at h2
  unfold In32; omega
def In63 (x : Int) : Prop := -9223372036854775808 ≤ x ∧ x < 9223372036854775808
theorem of_wf63 {x : Int} (h : (Lit.int .i64 x).wf = true) : In63 x := by
  have h2 := h
  simp [Lit.wf, IntKind.min, IntKind.max, IntKind.signed, IntKind.bits] at h2
  unfold In63; omega

/-- P8.1: the bits from hi to lo. -/
def fldZ (x hi lo : Int) : Int := if 0 ≤ lo ∧ lo ≤ hi ∧ hi ≤ 31 then x / 2 ^ lo.toNat % 2 ^ (hi - lo + 1).toNat else 0
theorem fldZ_out {x hi lo : Int} (h : ¬ (0 ≤ lo ∧ lo ≤ hi ∧ hi ≤ 31)) : fldZ x hi lo = 0 := by unfold fldZ; rw [if_neg h]
theorem fldZ_eq {x hi lo : Int} (h : 0 ≤ lo ∧ lo ≤ hi ∧ hi ≤ 31) : fldZ x hi lo = x / 2 ^ lo.toNat % 2 ^ (hi - lo + 1).toNat := by unfold fldZ; rw [if_pos h]

theorem wrap32 (x : Int) : IntKind.u32.wrap x = x % 4294967296 := by simp [IntKind.wrap, IntKind.bits, IntKind.signed]
theorem two_pow_pos (k : Nat) : (0 : Int) < 2 ^ k := Int.pow_pos (by decide)

theorem emod_ediv_pow (y : Int) (b c : Nat) : y % (2 ^ b * 2 ^ c) / 2 ^ b = y / 2 ^ b % 2 ^ c := by
  have hb := two_pow_pos b
  rw [Int.emod_def, Int.emod_def, Int.mul_assoc, Int.sub_eq_add_neg, ← Int.mul_neg, Int.add_mul_ediv_left _ _ (by omega), Int.ediv_ediv_of_nonneg (by omega)]
  omega
/-- What is shifted out above and below leaves what stands between. -/
theorem shift_out (x : Int) (a b c : Nat) (h : a + b + c = 32) : x * 2 ^ a % 4294967296 / 2 ^ (a + b) = x / 2 ^ b % 2 ^ c := by
  have e : (4294967296 : Int) = 2 ^ a * (2 ^ b * 2 ^ c) := by rw [← Int.pow_add, ← Int.pow_add, show a + (b + c) = 32 by omega]; rfl
  rw [e, Int.mul_comm x, Int.mul_emod_mul_of_pos _ _ (two_pow_pos a), Int.pow_add, Int.mul_ediv_mul_of_pos _ _ (two_pow_pos a), emod_ediv_pow]
theorem fldZ_in {x hi lo : Int} (h1 : 0 ≤ lo) (h2 : lo ≤ hi) (h3 : hi ≤ 31) : IntKind.u32.wrap (x * 2 ^ (31 - hi).toNat) / 2 ^ (31 - hi + lo).toNat = fldZ x hi lo := by
  rw [fldZ_eq ⟨h1, h2, h3⟩, wrap32, show (31 - hi + lo).toNat = (31 - hi).toNat + lo.toNat by omega]
  exact shift_out x _ _ _ (by omega)

/-- One bit. -/
def bitZ (x k : Int) : Int := x / 2 ^ k.toNat % 2
theorem and_one_u32 {y : Int} (h : 0 ≤ y) : bits .and .u32 y 1 = y % 2 := by
  obtain ⟨n, rfl⟩ := Int.eq_ofNat_of_zero_le h
  show IntKind.u32.wrap ((BitVec.ofInt 32 (n : Int) &&& 1#32).toNat : Int) = _
  rw [BitVec.toNat_and, BitVec.ofInt_natCast, BitVec.toNat_ofNat, show (1#32).toNat = 1 from rfl, Nat.and_one_is_mod]
  simp [IntKind.wrap, IntKind.bits, IntKind.signed]; omega
theorem and_one_i64 (y : Int) : bits .and .i64 y 1 = y % 2 := by
  show IntKind.i64.wrap ((BitVec.ofInt 64 y &&& 1#64).toNat : Int) = _
  have h : (BitVec.ofInt 64 y &&& 1#64).toNat = (y % 2).toNat := by
    rw [BitVec.toNat_and, show (1#64).toNat = 1 from rfl, Nat.and_one_is_mod, BitVec.toNat_ofInt]; omega
  rw [h]
  simp [IntKind.wrap, IntKind.bits, IntKind.signed]; omega
theorem bitZ_in {x k : Int} (hx : In32 x) (hk : 0 ≤ k) : wrap64 (bits .and .u32 (x / 2 ^ k.toNat) 1) = bitZ x k := by
  have h1 : 0 ≤ x / 2 ^ k.toNat := Int.ediv_nonneg hx.1 (Int.le_of_lt (two_pow_pos _))
  rw [and_one_u32 h1]
  unfold bitZ wrap64; omega
theorem bitZ_01 (x k : Int) : 0 ≤ bitZ x k ∧ bitZ x k < 2 := by unfold bitZ; omega

theorem half_step (y : Int) (m : Nat) : 2 * (y / 2 % 2 ^ m) + y % 2 = y % 2 ^ (m + 1) := by
  have h := emod_ediv_pow y 1 m
  have h2 : (2 : Int) ^ (m + 1) = 2 ^ 1 * 2 ^ m := by rw [Int.pow_add]; omega
  rw [h2]
  rw [show (2 : Int) ^ 1 = 2 from rfl] at *
  rw [← h]
  have h3 : y % (2 * 2 ^ m) % 2 = y % 2 := Int.emod_emod_of_dvd _ ⟨2 ^ m, rfl⟩
  omega
/-- One bit more at the lower end. -/
theorem fld_step (x : Int) (t m : Nat) : 2 * (x / 2 ^ (t + 1) % 2 ^ m) + bitZ x (t : Int) = x / 2 ^ t % 2 ^ (m + 1) := by
  have e : x / 2 ^ (t + 1) = x / 2 ^ t / 2 := by
    rw [Int.ediv_ediv_of_nonneg (Int.le_of_lt (two_pow_pos _)), Int.pow_succ]
  rw [e]; unfold bitZ; exact half_step _ _
theorem mod_pow_lt (y : Int) (m : Nat) (h : m ≤ 32) : 0 ≤ y % 2 ^ m ∧ y % 2 ^ m < 4294967296 := by
  have h1 := two_pow_pos m
  have h2 : (2 : Int) ^ m ≤ 2 ^ 32 := by exact_mod_cast Nat.pow_le_pow_right (by omega) h
  have h3 := Int.emod_nonneg y (show (2 : Int) ^ m ≠ 0 by omega)
  have h4 := Int.emod_lt_of_pos y h1
  have h5 : (2 : Int) ^ 32 = 4294967296 := rfl
  omega
theorem fldZ_in32 (x hi lo : Int) : In32 (fldZ x hi lo) := by
  unfold fldZ In32
  split
  · exact mod_pow_lt _ _ (by omega)
  · omega
/-- How a form's number stands in a word: pieces, the highest first; noughts behind them; a sign. -/
structure Lay where
  ps : List (Int × Int)
  nt : Nat
  sg : Bool
def Lay.h (L : Lay) (k : Nat) : Int := (L.ps.getD k (0, 0)).1
def Lay.l (L : Lay) (k : Nat) : Int := (L.ps.getD k (0, 0)).2
def Lay.len (L : Lay) (k : Nat) : Nat := (L.h k - L.l k + 1).toNat
/-- Whether the number's sign is set. -/
def Lay.neg (L : Lay) (x : Int) : Bool := L.sg && fldZ x (L.h 0) (L.h 0) == 1
/-- The number that the first k pieces tell. -/
def Lay.num (L : Lay) (x : Int) : Nat → Int
  | 0 => if L.neg x then -1 else 0
  | k + 1 => L.num x k * 2 ^ L.len k + fldZ x (L.h k) (L.l k)
def Lay.number (L : Lay) (x : Int) : Int := L.num x L.ps.length * 2 ^ L.nt
/-- What is left of a number behind (ahead of) the pieces that stand from k on. -/
def Lay.rest (L : Lay) (n : Int) : Nat → Int
  | 0 => n / 2 ^ L.nt
  | m + 1 => L.rest n m / 2 ^ L.len (L.ps.length - 1 - m)
/-- The word that n's lowest bits make, by the m lowest pieces. -/
def Lay.put (L : Lay) (n : Int) : Nat → Int
  | 0 => 0
  | m + 1 => bits .or .u32 (L.put n m) (IntKind.u32.wrap (fldZ (IntKind.u32.wrap (L.rest n m)) (L.h (L.ps.length - 1 - m) - L.l (L.ps.length - 1 - m)) 0 * 2 ^ (L.l (L.ps.length - 1 - m)).toNat))
def Lay.word (L : Lay) (n : Int) : Int := L.put n L.ps.length
structure Lay.Ok (L : Lay) : Prop where
  one : 1 ≤ L.ps.length
  four : L.ps.length ≤ 4
  in31 : ∀ k, k < L.ps.length → 0 ≤ L.l k ∧ L.l k ≤ L.h k ∧ L.h k ≤ 31
  nt12 : L.nt ≤ 12
  small : ∀ x k, k ≤ L.ps.length → -4294967296 ≤ L.num x k ∧ L.num x k < 4294967296

/-- What is put beside a shifted number. -/
theorem or_i64 {n f : Int} {l : Nat} (hl : l < 64) (h1 : 0 ≤ f) (h2 : f < 2 ^ l) (h3 : -9223372036854775808 ≤ n * 2 ^ l + f) (h4 : n * 2 ^ l + f < 9223372036854775808) :
    bits .or .i64 (wrap64 (n * 2 ^ l)) f = n * 2 ^ l + f := by
  have a1 : BitVec.ofInt 64 (wrap64 (n * 2 ^ l)) = BitVec.ofInt 64 n <<< l := by
    rw [← BitVec.mul_twoPow_eq_shiftLeft]
    have e : BitVec.twoPow 64 l = BitVec.ofInt 64 (2 ^ l) := by
      apply BitVec.eq_of_toNat_eq
      rw [show (2 : Int) ^ l = ((2 ^ l : Nat) : Int) by norm_cast, BitVec.ofInt_natCast, BitVec.toNat_ofNat, BitVec.toNat_twoPow]
    rw [e, ← BitVec.ofInt_mul]
    apply BitVec.eq_of_toInt_eq
    rw [BitVec.toInt_ofInt, BitVec.toInt_ofInt, Int.bmod_def, Int.bmod_def]; unfold wrap64; omega
  have a2 : BitVec.ofInt 64 n <<< l &&& BitVec.ofInt 64 f = 0#64 := by
    apply BitVec.eq_of_getLsbD_eq
    intro i hi
    rw [BitVec.getLsbD_and, BitVec.getLsbD_shiftLeft]
    by_cases c : i < l
    · simp [c]
    · have : (BitVec.ofInt 64 f).getLsbD i = false := by
        obtain ⟨m, rfl⟩ := Int.eq_ofNat_of_zero_le h1
        rw [BitVec.ofInt_natCast, BitVec.getLsbD_ofNat]
        have hm : m < 2 ^ i := Nat.lt_of_lt_of_le (by exact_mod_cast h2) (Nat.pow_le_pow_right (by omega) (by omega))
        rw [Nat.testBit_lt_two_pow hm]; simp
      simp [this]
  show IntKind.i64.wrap (((BitVec.ofInt 64 (wrap64 (n * 2 ^ l)) ||| BitVec.ofInt 64 f).toNat : Int)) = _
  rw [a1, ← BitVec.add_eq_or_of_and_eq_zero _ _ a2, ← a1, ← BitVec.ofInt_add, BitVec.toNat_ofInt]
  simp [IntKind.wrap, IntKind.bits, IntKind.signed]
  unfold wrap64
  omega
theorem wrap_i64 (y : Int) : IntKind.i64.wrap y = wrap64 y := by
  simp [IntKind.wrap, IntKind.bits, IntKind.signed]; unfold wrap64; omega
theorem wrap64_id {y : Int} (h1 : -9223372036854775808 ≤ y) (h2 : y < 9223372036854775808) : wrap64 y = y := by unfold wrap64; omega
theorem pow_le_32 {l : Nat} (h : l ≤ 32) : (1 : Int) ≤ 2 ^ l ∧ (2 : Int) ^ l ≤ 4294967296 := by
  have h1 := two_pow_pos l
  have h2 : (2 : Int) ^ l ≤ 2 ^ 32 := by exact_mod_cast Nat.pow_le_pow_right (by omega) h
  have h5 : (2 : Int) ^ 32 = 4294967296 := rfl
  omega
theorem fldZ_lt {x hi lo : Int} (h : 0 ≤ lo ∧ lo ≤ hi ∧ hi ≤ 31) : 0 ≤ fldZ x hi lo ∧ fldZ x hi lo < 2 ^ (hi - lo + 1).toNat := by
  rw [fldZ_eq h]
  have h1 := two_pow_pos (hi - lo + 1).toNat
  exact ⟨Int.emod_nonneg _ (by omega), Int.emod_lt_of_pos _ h1⟩
theorem mul_small {n p : Int} (h1 : -4294967296 ≤ n) (h2 : n < 4294967296) (h3 : 1 ≤ p) (h4 : p ≤ 1073741824) : -4611686018427387904 ≤ n * p ∧ n * p ≤ 4611686018427387904 := by
  constructor
  · have := Int.mul_le_mul_of_nonneg_right h1 (show 0 ≤ p by omega)
    omega
  · have := Int.mul_le_mul_of_nonneg_right (show n ≤ 4294967296 by omega) (show 0 ≤ p by omega)
    omega
theorem Lay.step {L : Lay} (hL : L.Ok) {x : Int} {k : Nat} (hk : k < L.ps.length) :
    bits .or .i64 (IntKind.i64.wrap (L.num x k * 2 ^ (L.h k - L.l k + 1).toNat)) (IntKind.i64.wrap (fldZ x (L.h k) (L.l k))) = L.num x (k + 1) := by
  have a := hL.small x (k + 1) hk
  have g := hL.in31 k hk
  have f := fldZ_lt (x := x) g
  have f2 := fldZ_in32 x (L.h k) (L.l k)
  unfold In32 at f2
  rw [wrap_i64, wrap_i64, wrap64_id (y := fldZ x (L.h k) (L.l k)) (by omega) (by omega)]
  have e : L.num x (k + 1) = L.num x k * 2 ^ (L.h k - L.l k + 1).toNat + fldZ x (L.h k) (L.l k) := rfl
  rw [e] at a ⊢
  exact or_i64 (by omega) f.1 f.2 (by omega) (by omega)
theorem Lay.last {L : Lay} (hL : L.Ok) (x : Int) : wrap64 (L.num x L.ps.length * 2 ^ L.nt) = L.number x := by
  have a := hL.small x L.ps.length (Nat.le_refl _)
  have p : (1 : Int) ≤ 2 ^ L.nt ∧ (2 : Int) ^ L.nt ≤ 1073741824 := by
    have h1 := two_pow_pos L.nt
    have h2 : (2 : Int) ^ L.nt ≤ 2 ^ 30 := by exact_mod_cast Nat.pow_le_pow_right (by omega) (show L.nt ≤ 30 by have := hL.nt12; omega)
    have h5 : (2 : Int) ^ 30 = 1073741824 := rfl
    omega
  have m := mul_small a.1 a.2 p.1 p.2
  unfold Lay.number
  exact wrap64_id (by omega) (by omega)
theorem Lay.put_at (L : Lay) (n : Int) {j : Nat} (hj : j < L.ps.length) :
    L.put n (L.ps.length - j) = bits .or .u32 (L.put n (L.ps.length - (j + 1))) (IntKind.u32.wrap (fldZ (IntKind.u32.wrap (L.rest n (L.ps.length - (j + 1)))) (L.h j - L.l j) 0 * 2 ^ (L.l j).toNat)) := by
  have e : L.ps.length - j = (L.ps.length - (j + 1)) + 1 := by omega
  have e2 : L.ps.length - 1 - (L.ps.length - (j + 1)) = j := by omega
  rw [e, Lay.put, e2]
theorem Lay.rest_at (L : Lay) (n : Int) {j : Nat} (hj : j < L.ps.length) :
    L.rest n (L.ps.length - j) = L.rest n (L.ps.length - (j + 1)) / 2 ^ (L.h j - L.l j + 1).toNat := by
  have e : L.ps.length - j = (L.ps.length - (j + 1)) + 1 := by omega
  have e2 : L.ps.length - 1 - (L.ps.length - (j + 1)) = j := by omega
  rw [e, Lay.rest, e2]; rfl

end Go.Proofs.YtehlihhnkojjeaaDoor
