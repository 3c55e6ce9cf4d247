/- The document's words of layer 1 on bit vectors (masks, pieces, signs), and that the program's arithmetic comes to them. Plain Lean; nothing of the program. -/
import Derived.Test.YtflaadnlmcgfoaaRBv
namespace Go.Proofs.YtflaadnlmcgfoaaR
open Go.RowKit
set_option linter.unusedVariables false
set_option maxRecDepth 100000

/-- P1.1: the word whose bits below n are 1. -/
def maskB (n : Int) : BitVec 64 := ofF fun i => decide ((i : Int) < n)
/-- P1.1: the piece from lo on, of n bits. -/
def fieldB (w : BitVec 64) (lo n : Int) : BitVec 64 :=
  if 0 ≤ lo ∧ lo < 64 then ofF fun i => decide ((i : Int) < n) && w.getLsbD (i + lo.toNat) else 0#64
/-- P1.1: w with v in the place of that piece. -/
def putB (w : BitVec 64) (lo n : Int) (v : BitVec 64) : BitVec 64 :=
  if 0 ≤ lo ∧ lo < 64 then ofF fun i => if lo.toNat ≤ i ∧ (i : Int) - lo < n then v.getLsbD (i - lo.toNat) else w.getLsbD i else w
/-- P1.2: w's bits below n, drawn out. -/
def sextB (w : BitVec 64) (n : Int) : BitVec 64 :=
  if n < 1 then 0#64 else ofF fun i => if (i : Int) < n then w.getLsbD i else w.getLsbD (n.toNat - 1)
/-- P1.2: whether w is its lowest n bits, drawn out. -/
def canonB (w : BitVec 64) (n : Int) : Bool := decide (1 ≤ n) && decide (sextB w n = w)

theorem mask_bit (n : Int) (i : Nat) : (maskB n).getLsbD i = (decide (i < 64) && decide ((i : Int) < n)) := bit_ofF _ _
theorem field_bit {lo : Int} (w : BitVec 64) (n : Int) (h : 0 ≤ lo ∧ lo < 64) (i : Nat) : (fieldB w lo n).getLsbD i = (decide (i < 64) && (decide ((i : Int) < n) && w.getLsbD (i + lo.toNat))) := by
  unfold fieldB; rw [if_pos h]; exact bit_ofF _ _
theorem put_bit {lo : Int} (w : BitVec 64) (n : Int) (v : BitVec 64) (h : 0 ≤ lo ∧ lo < 64) (i : Nat) :
    (putB w lo n v).getLsbD i = (decide (i < 64) && if lo.toNat ≤ i ∧ (i : Int) - lo < n then v.getLsbD (i - lo.toNat) else w.getLsbD i) := by
  unfold putB; rw [if_pos h]; exact bit_ofF _ _
theorem sext_bit {n : Int} (w : BitVec 64) (h : ¬ n < 1) (i : Nat) : (sextB w n).getLsbD i = (decide (i < 64) && if (i : Int) < n then w.getLsbD i else w.getLsbD (n.toNat - 1)) := by
  unfold sextB; rw [if_neg h]; exact bit_ofF _ _

/-! ### what the program reckons -/
theorem mask_lo {n : Int} (h : n < 1) : (0 : Int) = U (maskB n) := by
  have e : maskB n = 0#64 := ext64 fun i hi => by
    rw [mask_bit, decide_eq_false (show ¬ (i : Int) < n by omega)]; simp
  rw [e]; rfl
theorem mask_hi {n : Int} (h : 64 ≤ n) : (18446744073709551615 : Int) = U (maskB n) := by
  have e : maskB n = BitVec.allOnes 64 := ext64 fun i hi => by
    rw [mask_bit, decide_eq_true (show (i : Int) < n by omega), BitVec.getLsbD_allOnes]; simp
  rw [e]; rfl
theorem mask_mid {n : Int} (h1 : 1 ≤ n) (h2 : n < 64) : IntKind.u64.wrap (IntKind.u64.wrap (2 ^ n.toNat) - 1) = U (maskB n) := by
  rw [wrap_eq, V_sub, V_wrap, V_pow, V_one]
  congr 1
  refine ext64 fun i hi => ?_
  rw [mask_bit, decide_eq_true hi, Bool.true_and]
  have e : BitVec.twoPow 64 n.toNat - 1#64 = BitVec.ofNat 64 (2 ^ n.toNat - 1) := by
    apply BitVec.eq_of_toNat_eq
    have hp : 2 ^ n.toNat < 2 ^ 64 := Nat.pow_lt_pow_right (by omega) (by omega)
    have hq : 0 < 2 ^ n.toNat := Nat.pow_pos (by omega)
    rw [BitVec.toNat_sub, BitVec.toNat_twoPow, BitVec.toNat_ofNat, BitVec.toNat_ofNat, Nat.mod_eq_of_lt hp]
    omega
  rw [e, BitVec.getLsbD_ofNat, Nat.testBit_two_pow_sub_one, decide_eq_true hi, Bool.true_and]
  congr 1
  apply propext; omega

theorem field_out {w : BitVec 64} {lo n : Int} (h : ¬ (0 ≤ lo ∧ lo < 64)) : (0 : Int) = U (fieldB w lo n) := by
  unfold fieldB; rw [if_neg h]; rfl
theorem field_in {w : BitVec 64} {lo n : Int} (h : 0 ≤ lo ∧ lo < 64) : w >>> lo.toNat &&& maskB n = fieldB w lo n :=
  ext64 fun i hi => by
    rw [BitVec.getLsbD_and, BitVec.getLsbD_ushiftRight, field_bit w n h, mask_bit, Nat.add_comm, Bool.and_comm, Bool.and_assoc]
theorem put_out {w v : BitVec 64} {lo n : Int} (h : ¬ (0 ≤ lo ∧ lo < 64)) : putB w lo n v = w := by
  unfold putB; rw [if_neg h]
theorem put_in {w v : BitVec 64} {lo n : Int} (h : 0 ≤ lo ∧ lo < 64) : w &&& ~~~ (maskB n <<< lo.toNat) ||| v <<< lo.toNat &&& maskB n <<< lo.toNat = putB w lo n v :=
  ext64 fun i hi => by
    rw [BitVec.getLsbD_or, BitVec.getLsbD_and, BitVec.getLsbD_and, BitVec.getLsbD_not, BitVec.getLsbD_shiftLeft, BitVec.getLsbD_shiftLeft, put_bit w n v h, mask_bit]
    by_cases a : lo.toNat ≤ i
    · have e : ((i - lo.toNat : Nat) : Int) = (i : Int) - lo := by omega
      rw [e]
      by_cases b : (i : Int) - lo < n
      · simp [hi, a, b, show i - lo.toNat < 64 by omega, show ¬ i < lo.toNat by omega]
      · simp [hi, a, b]
    · simp [hi, a, show i < lo.toNat by omega]

theorem sext_lo {w : BitVec 64} {n : Int} (h : n < 1) : (0 : Int) = U (sextB w n) := by
  unfold sextB; rw [if_pos h]; rfl
theorem sext_eq {w : BitVec 64} {n : Int} (h1 : 1 ≤ n) (h2 : n ≤ 64) : (w <<< (64 - n).toNat).sshiftRight (64 - n).toNat = sextB w n :=
  ext64 fun i hi => by
    rw [BitVec.getLsbD_sshiftRight, sext_bit w (by omega), BitVec.getLsbD_shiftLeft, BitVec.msb_eq_getLsbD_last, BitVec.getLsbD_shiftLeft]
    by_cases a : (i : Int) < n
    · rw [if_pos (by omega), if_pos a]
      simp [hi, show ¬ 64 ≤ i by omega, show (64 - n).toNat + i < 64 by omega, show ¬ (64 - n).toNat + i < (64 - n).toNat by omega]
    · rw [if_neg (by omega), if_neg a]
      simp [hi, show ¬ 64 ≤ i by omega, show 63 - (64 - n).toNat = n.toNat - 1 by omega]
      intro h; omega
theorem sext_big {w : BitVec 64} {n : Int} (h : 64 ≤ n) : sextB w n = w :=
  ext64 fun i hi => by rw [sext_bit w (by omega), if_pos (by omega), decide_eq_true hi, Bool.true_and]
theorem sext_mid {x n : Int} (h1 : 1 ≤ n) (h2 : n ≤ 64) : IntKind.u64.wrap (wrap64 (IntKind.u64.wrap (x * 2 ^ (64 - n).toNat)) / 2 ^ (64 - n).toNat) = U (sextB (V x) n) := by
  rw [wrap_shl, wrap64_V, V_U, S_shr, wrap_eq, V_S, sext_eq h1 h2]
theorem sext_hi {x n : Int} (h : 64 < n) : IntKind.u64.wrap (wrap64 (IntKind.u64.wrap x)) = U (sextB (V x) n) := by
  rw [wrap_eq, wrap64_V, V_S, V_wrap, sext_big (by omega)]

theorem canon_reckon {x n : Int} (hx : In64 x) (h : 1 ≤ n) : (U (sextB (V x) n) == x) = canonB (V x) n := by
  unfold canonB
  rw [decide_eq_true h, Bool.true_and]
  by_cases e : sextB (V x) n = V x
  · rw [decide_eq_true e, e, U_V hx]; simp
  · rw [decide_eq_false e]
    simp only [beq_eq_false_iff_ne]
    intro h'; apply e
    have h2 := congrArg V h'; rwa [V_U] at h2

/-- P1.3: the least multiple that is not below a. -/
def upZ (a s : Int) : Int × Bool :=
  if s = 0 then (0, false) else if a % s = 0 then (a, true) else if a + (s - a % s) < 18446744073709551616 then (a + (s - a % s), true) else (0, false)
/-- P1.4: one bit. -/
def bitB (w : BitVec 64) (i : Int) : Bool := decide (0 ≤ i) && w.getLsbD i.toNat

theorem up_zero (a : Int) : upZ a 0 = (0, false) := by unfold upZ; rw [if_pos rfl]
theorem up_even {a s : Int} (h : ¬ s = 0) (h1 : a % s = 0) : upZ a s = (a, true) := by unfold upZ; rw [if_neg h, if_pos h1]
theorem up_fits {a s : Int} (h : ¬ s = 0) (h1 : ¬ a % s = 0) (h2 : a + (s - a % s) < 18446744073709551616) : upZ a s = (a + (s - a % s), true) := by
  unfold upZ; rw [if_neg h, if_neg h1, if_pos h2]
theorem up_over {a s : Int} (h : ¬ s = 0) (h1 : ¬ a % s = 0) (h2 : ¬ a + (s - a % s) < 18446744073709551616) : upZ a s = (0, false) := by
  unfold upZ; rw [if_neg h, if_neg h1, if_neg h2]
theorem up_sum {a s : Int} (ha : In64 a) (hs : In64 s) (h : ¬ s = 0) : IntKind.u64.wrap (a + IntKind.u64.wrap (s - a % s)) = (a + (s - a % s)) % 18446744073709551616 := by
  unfold In64 at ha hs
  rw [IntKind.wrap_u64, IntKind.wrap_u64]
  have h1 := Int.emod_nonneg a h
  have h2 := Int.emod_lt_of_pos a (show 0 < s by omega)
  omega

theorem and_one_u8 {y : Int} (h : 0 ≤ y) : bits .and .u8 y 1 = y % 2 := by
  obtain ⟨n, rfl⟩ := Int.eq_ofNat_of_zero_le h
  show IntKind.u8.wrap ((BitVec.ofInt 8 (n : Int) &&& 1#8).toNat : Int) = _
  rw [BitVec.toNat_and, BitVec.ofInt_natCast, BitVec.toNat_ofNat, show (1#8).toNat = 1 from rfl, Nat.and_one_is_mod]
  simp [IntKind.wrap, IntKind.bits, IntKind.signed]; omega
theorem and_one_u16 {y : Int} (h : 0 ≤ y) : bits .and .u16 y 1 = y % 2 := by
  obtain ⟨n, rfl⟩ := Int.eq_ofNat_of_zero_le h
  show IntKind.u16.wrap ((BitVec.ofInt 16 (n : Int) &&& 1#16).toNat : Int) = _
  rw [BitVec.toNat_and, BitVec.ofInt_natCast, BitVec.toNat_ofNat, show (1#16).toNat = 1 from rfl, Nat.and_one_is_mod]
  simp [IntKind.wrap, IntKind.bits, IntKind.signed]; omega
theorem and_one_u32 {y : Int} (h : 0 ≤ y) : bits .and .u32 y 1 = y % 2 := by
  obtain ⟨n, rfl⟩ := Int.eq_ofNat_of_zero_le h
  show IntKind.u32.wrap ((BitVec.ofInt 32 (n : Int) &&& 1#32).toNat : Int) = _
  rw [BitVec.toNat_and, BitVec.ofInt_natCast, BitVec.toNat_ofNat, show (1#32).toNat = 1 from rfl, Nat.and_one_is_mod]
  simp [IntKind.wrap, IntKind.bits, IntKind.signed]; omega
theorem and_one_u64 {y : Int} (h : 0 ≤ y) : bits .and .u64 y 1 = y % 2 := by
  obtain ⟨n, rfl⟩ := Int.eq_ofNat_of_zero_le h
  show IntKind.u64.wrap ((BitVec.ofInt 64 (n : Int) &&& 1#64).toNat : Int) = _
  rw [BitVec.toNat_and, BitVec.ofInt_natCast, BitVec.toNat_ofNat, show (1#64).toNat = 1 from rfl, Nat.and_one_is_mod]
  simp [IntKind.wrap, IntKind.bits, IntKind.signed]; omega

/-- Bit i of a number below 2^k, shifted down by no more than k. -/
theorem bit_reckon {x i : Int} {k : Nat} (hk : k ≤ 64) (h0 : 0 ≤ x) (h1 : x < 2 ^ k) (hi : 0 ≤ i) : (x / 2 ^ min i.toNat k % 2 == 1) = bitB (V x) i := by
  obtain ⟨n, rfl⟩ := Int.eq_ofNat_of_zero_le h0
  have hn : n < 2 ^ k := by norm_cast at h1
  have hV : (V (n : Int)).toNat = n := by
    unfold V; rw [BitVec.ofInt_natCast, BitVec.toNat_ofNat]
    exact Nat.mod_eq_of_lt (Nat.lt_of_lt_of_le hn (Nat.pow_le_pow_right (by omega) hk))
  unfold bitB
  rw [decide_eq_true hi, Bool.true_and, bit_div, hV]
  have e : (n : Int) / 2 ^ min i.toNat k % 2 = ((n / 2 ^ min i.toNat k % 2 : Nat) : Int) := by norm_cast
  rw [e]
  by_cases h : i.toNat ≤ k
  · rw [Nat.min_eq_left h]
    generalize n / 2 ^ i.toNat % 2 = q
    rw [Bool.eq_iff_iff, beq_iff_eq, decide_eq_true_eq]; omega
  · have z1 : n / 2 ^ k = 0 := Nat.div_eq_of_lt hn
    have z2 : n / 2 ^ i.toNat = 0 := Nat.div_eq_of_lt (Nat.lt_of_lt_of_le hn (Nat.pow_le_pow_right (by omega) (by omega)))
    rw [Nat.min_eq_right (by omega), z1, z2]; rfl
theorem bit_neg {b : BitVec 64} {i : Int} (hi : i < 0) : bitB b i = false := by
  unfold bitB; rw [decide_eq_false (show ¬ 0 ≤ i by omega), Bool.false_and]

end Go.Proofs.YtflaadnlmcgfoaaR
