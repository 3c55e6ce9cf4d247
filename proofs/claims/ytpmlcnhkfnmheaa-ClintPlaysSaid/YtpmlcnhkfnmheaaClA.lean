/- Layer 4, plain: the state of a clint, its places, what is read there and what a write leaves. Nothing of the program. -/
import Derived.Test.YtpmlcnhkfnmheaaBits
namespace Go.Proofs.Ytpmlcnhkfnmheaa
open Go.RowKit
set_option linter.unusedVariables false

/-- A clint's state: its software word, the time to compare with, the time. -/
structure Cl where
  s : Bool
  c : Int
  n : Int
/-- Both times are words. -/
def Cl.ok (t : Cl) : Prop := In64 t.c ∧ In64 t.n
/-- The software word as a number. -/
def sI (b : Bool) : Int := if b then 1 else 0
theorem sI_true : sI true = 1 := rfl
theorem sI_false : sI false = 0 := rfl
theorem sI_in (b : Bool) : In64 (sI b) := by cases b <;> (unfold In64 sI; simp)
/-- The numbers of the places: 0 is none. -/
def kindC (off n : Int) : Nat :=
  if off = 0 ∧ n = 4 then 1 else if off = 16384 ∧ n = 8 then 2 else if off = 16384 ∧ n = 4 then 3 else if off = 16388 ∧ n = 4 then 4
  else if off = 49144 ∧ n = 8 then 5 else if off = 49144 ∧ n = 4 then 6 else if off = 49148 ∧ n = 4 then 7 else 0
/-- Whether there is such a place. -/
def okC (off n : Int) : Bool := kindC off n != 0
/-- What stands at a place. -/
def rdC (t : Cl) : Nat → Int
  | 1 => sI t.s
  | 2 => t.c
  | 3 => t.c % 4294967296
  | 4 => t.c / 4294967296
  | 5 => t.n
  | 6 => t.n % 4294967296
  | 7 => t.n / 4294967296
  | _ => 0
/-- What a write of v leaves. -/
def wrC (t : Cl) (v : Int) : Nat → Cl
  | 1 => ⟨v % 2 == 1, t.c, t.n⟩
  | 2 => ⟨t.s, v, t.n⟩
  | 3 => ⟨t.s, t.c / 4294967296 * 4294967296 + v % 4294967296, t.n⟩
  | 4 => ⟨t.s, v % 4294967296 * 4294967296 + t.c % 4294967296, t.n⟩
  | 5 => ⟨t.s, t.c, v⟩
  | 6 => ⟨t.s, t.c, t.n / 4294967296 * 4294967296 + v % 4294967296⟩
  | 7 => ⟨t.s, t.c, v % 4294967296 * 4294967296 + t.n % 4294967296⟩
  | _ => t
/-- What ticks leave. -/
def tickC (t : Cl) (n : Int) : Cl := ⟨t.s, t.c, (t.n + n) % 18446744073709551616⟩
theorem wrC_ok {t : Cl} {v : Int} (h : t.ok) (hv : In64 v) (k : Nat) : (wrC t v k).ok := by
  unfold Cl.ok In64 at *
  match k with
  | 0 => exact h
  | 1 => exact h
  | 2 => exact ⟨hv, h.2⟩
  | 3 => simp only [wrC]; omega
  | 4 => simp only [wrC]; omega
  | 5 => exact ⟨h.1, hv⟩
  | 6 => simp only [wrC]; omega
  | 7 => simp only [wrC]; omega
  | _ + 8 => exact h
theorem tickC_ok {t : Cl} {n : Int} (h : t.ok) : (tickC t n).ok := by
  unfold Cl.ok In64 tickC at *; simp only; omega

/-- Every offset and length: one of the seven places, or none, as one asks. -/
theorem kind_cases (off n : Int) :
    (off = 0 ∧ n = 4 ∧ kindC off n = 1) ∨ (off = 16384 ∧ n = 8 ∧ kindC off n = 2) ∨ (off = 16384 ∧ n = 4 ∧ kindC off n = 3) ∨ (off = 16388 ∧ n = 4 ∧ kindC off n = 4) ∨
    (off = 49144 ∧ n = 8 ∧ kindC off n = 5) ∨ (off = 49144 ∧ n = 4 ∧ kindC off n = 6) ∨ (off = 49148 ∧ n = 4 ∧ kindC off n = 7) ∨
    (kindC off n = 0 ∧ ¬ (off = 0 ∧ n = 4) ∧ ¬ ((off = 16384 ∨ off = 49144) ∧ n = 8) ∧ ¬ ((off = 16384 ∨ off = 16388 ∨ off = 49144 ∨ off = 49148) ∧ n = 4)) := by
  by_cases h1 : off = 0 ∧ n = 4
  · obtain ⟨rfl, rfl⟩ := h1; exact .inl ⟨rfl, rfl, rfl⟩
  by_cases h2 : off = 16384 ∧ n = 8
  · obtain ⟨rfl, rfl⟩ := h2; exact .inr (.inl ⟨rfl, rfl, rfl⟩)
  by_cases h3 : off = 16384 ∧ n = 4
  · obtain ⟨rfl, rfl⟩ := h3; exact .inr (.inr (.inl ⟨rfl, rfl, rfl⟩))
  by_cases h4 : off = 16388 ∧ n = 4
  · obtain ⟨rfl, rfl⟩ := h4; exact .inr (.inr (.inr (.inl ⟨rfl, rfl, rfl⟩)))
  by_cases h5 : off = 49144 ∧ n = 8
  · obtain ⟨rfl, rfl⟩ := h5; exact .inr (.inr (.inr (.inr (.inl ⟨rfl, rfl, rfl⟩))))
  by_cases h6 : off = 49144 ∧ n = 4
  · obtain ⟨rfl, rfl⟩ := h6; exact .inr (.inr (.inr (.inr (.inr (.inl ⟨rfl, rfl, rfl⟩)))))
  by_cases h7 : off = 49148 ∧ n = 4
  · obtain ⟨rfl, rfl⟩ := h7; exact .inr (.inr (.inr (.inr (.inr (.inr (.inl ⟨rfl, rfl, rfl⟩))))))
  refine .inr (.inr (.inr (.inr (.inr (.inr (.inr ⟨?_, h1, ?_, ?_⟩))))))
  · unfold kindC; rw [if_neg h1, if_neg h2, if_neg h3, if_neg h4, if_neg h5, if_neg h6, if_neg h7]
  · omega
  · omega

/-! ### what the program reckons: pieces of a word, told and put -/
theorem field_whole {x : Int} (h : In64 x) : U (fieldB (V x) 0 64) = x := by
  rw [← U_V h]
  congr 1
  rw [V_U]
  refine ext64 fun i hi => ?_
  rw [field_bit _ _ (by omega)]
  simp [hi]; omega
theorem put_whole {x v : Int} (h : In64 v) : U (putB (V x) 0 64 (V v)) = v := by
  conv => rhs; rw [← U_V h]
  congr 1
  refine ext64 fun i hi => ?_
  rw [put_bit _ _ _ (by omega)]
  simp [hi]; omega
theorem low_toNat (b : BitVec 64) : fieldB b 0 32 = BitVec.ofNat 64 (b.toNat % 2 ^ 32) := by
  refine ext64 fun i hi => ?_
  rw [field_bit _ _ (by omega), BitVec.getLsbD_ofNat, Nat.testBit_mod_two_pow, decide_eq_true hi]
  by_cases c : i < 32
  · simp [BitVec.getLsbD, c, show (i : Int) < 32 by omega]
  · simp [c, show ¬ (i : Int) < 32 by omega]
theorem high_toNat (b : BitVec 64) : fieldB b 32 32 = BitVec.ofNat 64 (b.toNat / 2 ^ 32) := by
  refine ext64 fun i hi => ?_
  rw [field_bit _ _ (by omega), BitVec.getLsbD_ofNat, Nat.testBit_div_two_pow, decide_eq_true hi]
  have hb := b.isLt
  by_cases h : i < 32
  · simp [BitVec.getLsbD, show (i : Int) < 32 by omega, Nat.add_comm]
  · have hz : b.toNat.testBit (32 + i) = false := Nat.testBit_lt_two_pow (Nat.lt_of_lt_of_le hb (Nat.pow_le_pow_right (by omega) (by omega)))
    have hz2 : b.toNat.testBit (i + 32) = false := by rw [Nat.add_comm]; exact hz
    simp [hz2, show ¬ (i : Int) < 32 by omega]
theorem V_nat {x : Int} (h : In64 x) : ((V x).toNat : Int) = x := toNat_V h
theorem field_low {x : Int} (h : In64 x) : U (fieldB (V x) 0 32) = x % 4294967296 := by
  rw [low_toNat]; unfold U
  rw [BitVec.toNat_ofNat]
  have := V_nat h
  unfold In64 at h
  omega
theorem field_high {x : Int} (h : In64 x) : U (fieldB (V x) 32 32) = x / 4294967296 := by
  rw [high_toNat]; unfold U
  rw [BitVec.toNat_ofNat]
  have := V_nat h
  unfold In64 at h
  omega
theorem put_low {x v : Int} (h : In64 x) (hv : In64 v) : U (putB (V x) 0 32 (V v)) = x / 4294967296 * 4294967296 + v % 4294967296 := by
  have e : putB (V x) 0 32 (V v) = BitVec.ofNat 64 (2 ^ 32 * ((V x).toNat / 2 ^ 32) + (V v).toNat % 2 ^ 32) := by
    refine ext64 fun i hi => ?_
    rw [put_bit _ _ _ (by omega), BitVec.getLsbD_ofNat, decide_eq_true hi, Nat.testBit_two_pow_mul_add _ (Nat.mod_lt _ (by omega)), Nat.testBit_mod_two_pow, Nat.testBit_div_two_pow]
    by_cases c : i < 32
    · simp [BitVec.getLsbD, c, show (i : Int) < 32 by omega]
    · simp [BitVec.getLsbD, c, show ¬ (i : Int) < 32 by omega, show i - 32 + 32 = i by omega]
  rw [e]; unfold U
  rw [BitVec.toNat_ofNat]
  have h1 := V_nat h
  have h2 := V_nat hv
  unfold In64 at h hv
  omega
theorem put_high {x v : Int} (h : In64 x) (hv : In64 v) : U (putB (V x) 32 32 (V v)) = v % 4294967296 * 4294967296 + x % 4294967296 := by
  have e : putB (V x) 32 32 (V v) = BitVec.ofNat 64 (2 ^ 32 * ((V v).toNat % 2 ^ 32) + (V x).toNat % 2 ^ 32) := by
    refine ext64 fun i hi => ?_
    rw [put_bit _ _ _ (by omega), BitVec.getLsbD_ofNat, decide_eq_true hi, Nat.testBit_two_pow_mul_add _ (Nat.mod_lt _ (by omega)), Nat.testBit_mod_two_pow, Nat.testBit_mod_two_pow]
    by_cases c : i < 32
    · simp [BitVec.getLsbD, c, show ¬ 32 ≤ i by omega]
    · simp [BitVec.getLsbD, c, show 32 ≤ i by omega, show (i : Int) - 32 < 32 by omega, show i - 32 < 32 by omega]
  rw [e]; unfold U
  rw [BitVec.toNat_ofNat]
  have h1 := V_nat h
  have h2 := V_nat hv
  unfold In64 at h hv
  omega
/-- The lowest bit of a number. -/
theorem bit_zero {v : Int} (hv : In64 v) : bitB (V v) 0 = (v % 2 == 1) := by
  unfold bitB
  have h2 := V_nat hv
  rw [decide_eq_true (show (0 : Int) ≤ 0 by omega), Bool.true_and, show (0 : Int).toNat = 0 from rfl, bit_div, Bool.eq_iff_iff, decide_eq_true_eq, beq_iff_eq]
  omega
theorem bit_put_low {x v : Int} (h : In64 x) (hv : In64 v) : bitB (V (U (putB (V x) 0 32 (V v)))) 0 = (v % 2 == 1) := by
  rw [bit_zero (U_in _), put_low h hv, Bool.eq_iff_iff, beq_iff_eq, beq_iff_eq]
  unfold In64 at *
  omega

end Go.Proofs.Ytpmlcnhkfnmheaa
