/- Words of 64 bits as integers and as bit vectors: how the walk's spellings (wraps, shifts, bit operations) read as operations on BitVec 64. Plain Lean; nothing of the program. -/
import Derived.WalkKit
import Derived.ProofKit
namespace Go.Proofs.YtflaadnlmcgfoaaR
open Go.RowKit
set_option linter.unusedVariables false
set_option maxRecDepth 100000

/-- The number of a bit vector, and the bit vector of a number. -/
def U (b : BitVec 64) : Int := (b.toNat : Int)
def V (x : Int) : BitVec 64 := BitVec.ofInt 64 x
/-- A number that a word can hold. -/
def In64 (x : Int) : Prop := 0 ≤ x ∧ x < 18446744073709551616

theorem U_in (b : BitVec 64) : In64 (U b) := by
  have := b.isLt; unfold In64 U; omega
theorem V_U (b : BitVec 64) : V (U b) = b := by
  unfold V U; rw [BitVec.ofInt_natCast]; simp
theorem U_V {x : Int} (h : In64 x) : U (V x) = x := by
  unfold In64 at h; unfold U V; rw [BitVec.toNat_ofInt]; omega
theorem U_inj {a b : BitVec 64} (h : U a = U b) : a = b := by
  have := congrArg V h; simpa [V_U] using this
theorem U_mod (x : Int) : U (V x) = x % 18446744073709551616 := by
  unfold U V; rw [BitVec.toNat_ofInt]; omega
theorem toNat_V {x : Int} (h : In64 x) : ((V x).toNat : Int) = x := U_V h
theorem of_wf {x : Int} (h : (Lit.int .u64 x).wf = true) : In64 x := by
  have h2 := h
  simp [Lit.wf, IntKind.min, IntKind.max, IntKind.signed, IntKind.bits] at h2
  unfold In64; omega
theorem to_wf {x : Int} (h : In64 x) : (Lit.int .u64 x).wf = true := by
  unfold In64 at h
  simp [Lit.wf, IntKind.min, IntKind.max, IntKind.signed, IntKind.bits]; omega
/-- A signed number that a word can hold. -/
def In63 (x : Int) : Prop := -9223372036854775808 ≤ x ∧ x < 9223372036854775808
theorem of_wf63 {x : Int} (h : (Lit.int .i64 x).wf = true) : In63 x := by
  have h2 := h
  simp [Lit.wf, IntKind.min, IntKind.max, IntKind.signed, IntKind.bits] at h2
  unfold In63; omega

theorem wrap_eq (x : Int) : IntKind.u64.wrap x = U (V x) := by
  rw [U_mod, IntKind.wrap_u64]
theorem V_wrap (x : Int) : V (IntKind.u64.wrap x) = V x := by rw [wrap_eq, V_U]

theorem bits_and (x y : Int) : bits .and .u64 x y = U (V x &&& V y) := by
  show IntKind.u64.wrap ((V x &&& V y).toNat : Int) = _
  exact (wrap_eq _).trans (by rw [show ((V x &&& V y).toNat : Int) = U (V x &&& V y) from rfl, V_U])
theorem bits_or (x y : Int) : bits .or .u64 x y = U (V x ||| V y) := by
  show IntKind.u64.wrap ((V x ||| V y).toNat : Int) = _
  exact (wrap_eq _).trans (by rw [show ((V x ||| V y).toNat : Int) = U (V x ||| V y) from rfl, V_U])
theorem bits_xor (x y : Int) : bits .xor .u64 x y = U (V x ^^^ V y) := by
  show IntKind.u64.wrap ((V x ^^^ V y).toNat : Int) = _
  exact (wrap_eq _).trans (by rw [show ((V x ^^^ V y).toNat : Int) = U (V x ^^^ V y) from rfl, V_U])
theorem bits_andNot (x y : Int) : bits .andNot .u64 x y = U (V x &&& ~~~ V y) := by
  show IntKind.u64.wrap ((V x &&& ~~~ V y).toNat : Int) = _
  exact (wrap_eq _).trans (by rw [show ((V x &&& ~~~ V y).toNat : Int) = U (V x &&& ~~~ V y) from rfl, V_U])

theorem V_add (x y : Int) : V (x + y) = V x + V y := by unfold V; rw [BitVec.ofInt_add]
theorem V_mul (x y : Int) : V (x * y) = V x * V y := by unfold V; rw [BitVec.ofInt_mul]
theorem V_neg (x : Int) : V (-x) = - V x := by unfold V; rw [BitVec.ofInt_neg]
theorem V_sub (x y : Int) : V (x - y) = V x - V y := by
  rw [Int.sub_eq_add_neg, V_add, V_neg, BitVec.sub_eq_add_neg]
theorem V_pow (k : Nat) : V (2 ^ k) = BitVec.twoPow 64 k := by
  apply BitVec.eq_of_toNat_eq
  have h : (2 : Int) ^ k = ((2 ^ k : Nat) : Int) := by norm_cast
  unfold V; rw [h, BitVec.ofInt_natCast, BitVec.toNat_ofNat, BitVec.toNat_twoPow]

theorem wrap_shl (x : Int) (k : Nat) : IntKind.u64.wrap (x * 2 ^ k) = U (V x <<< k) := by
  rw [wrap_eq, V_mul, V_pow, BitVec.mul_twoPow_eq_shiftLeft]
theorem shr_eq {x : Int} (h : In64 x) (k : Nat) : x / 2 ^ k = U (V x >>> k) := by
  have e := toNat_V h
  unfold U
  rw [BitVec.toNat_ushiftRight, Nat.shiftRight_eq_div_pow, Int.natCast_ediv, e]
  norm_cast

/-- The number read with its sign. -/
def S (b : BitVec 64) : Int := b.toInt
theorem wrap64_V (x : Int) : wrap64 x = S (V x) := by
  unfold wrap64 S V; rw [BitVec.toInt_ofInt, Int.bmod_def]; omega
theorem V_S (b : BitVec 64) : V (S b) = b := by unfold V S; exact BitVec.ofInt_toInt
theorem S_in (b : BitVec 64) : In63 (S b) := by
  unfold In63 S
  have h1 := BitVec.le_toInt b
  have h2 := BitVec.toInt_lt (x := b)
  omega
theorem S_V {x : Int} (h : In63 x) : S (V x) = x := by
  unfold In63 at h; unfold S V; rw [BitVec.toInt_ofInt, Int.bmod_def]; omega
theorem S_inj {a b : BitVec 64} (h : S a = S b) : a = b := by
  have := congrArg V h; simpa [V_S] using this
theorem S_shr (b : BitVec 64) (k : Nat) : S b / 2 ^ k = S (b.sshiftRight k) := by
  unfold S; rw [BitVec.toInt_sshiftRight, Int.shiftRight_eq_div_pow]
  norm_cast

/-! ### words by their bits -/
def ofF (f : Nat → Bool) : BitVec 64 := (BitVec.ofBoolListLE ((List.range 64).map f)).cast (by simp)
theorem bit_ofF (f : Nat → Bool) (i : Nat) : (ofF f).getLsbD i = (decide (i < 64) && f i) := by
  unfold ofF
  rw [BitVec.getLsbD_cast, BitVec.getLsbD_ofBoolListLE]
  by_cases h : i < 64
  · simp [h, List.getD]
  · simp [h, List.getD]
theorem ext64 {a b : BitVec 64} (h : ∀ i, i < 64 → a.getLsbD i = b.getLsbD i) : a = b := BitVec.eq_of_getLsbD_eq fun i hi => h i hi
theorem bit_of_ge (b : BitVec 64) {i : Nat} (h : 64 ≤ i) : b.getLsbD i = false := BitVec.getLsbD_of_ge b i h
theorem ofF_bits (b : BitVec 64) : ofF b.getLsbD = b := ext64 fun i hi => by rw [bit_ofF, decide_eq_true hi, Bool.true_and]
theorem ofF_congr {f g : Nat → Bool} (h : ∀ i, i < 64 → f i = g i) : ofF f = ofF g := ext64 fun i hi => by rw [bit_ofF, bit_ofF, h i hi]

theorem V_zero : V 0 = 0#64 := rfl
theorem V_one : V 1 = 1#64 := rfl
theorem V_all : V 18446744073709551615 = BitVec.allOnes 64 := by decide
theorem U_zero : U 0#64 = 0 := rfl

/-- Bit k of a word, by division. -/
theorem bit_div (b : BitVec 64) (k : Nat) : b.getLsbD k = decide (b.toNat / 2 ^ k % 2 = 1) := by
  rw [BitVec.getLsbD, Nat.testBit_eq_decide_div_mod_eq]

theorem two_pow_le {a b : Nat} (h : a ≤ b) : (2 : Int) ^ a ≤ 2 ^ b := by exact_mod_cast Nat.pow_le_pow_right (by omega) h

end Go.Proofs.YtflaadnlmcgfoaaR
