/- Layer 14 (trap), in plain words: a bit put; where a trap goes; the place; what the law of the way back and the law of quiet ask of the bits. Prepared ahead. -/
import Derived.Test.YtkfhpmleelmcfaaCsA
import Derived.Test.YtkfhpmleelmcfaaHaSt
namespace Go.Proofs.Ytkfhpmleelmcfaa
open Go.RowKit
set_option linter.unusedVariables false
set_option maxRecDepth 100000

def withZ (x : Int) (k : Nat) (b : Bool) : Int := if b then bits .or .u64 (bits .andNot .u64 x (2 ^ k)) (2 ^ k) else bits .andNot .u64 x (2 ^ k)
theorem with_in (x : Int) (k : Nat) (b : Bool) : In64 (withZ x k b) := by
  unfold withZ; split
  · exact or_in _ _
  · exact andNot_in _ _
theorem bit_with (x : Int) {k i : Nat} (hk : k < 64) (hi : i < 64) (b : Bool) : bitZ (withZ x k b) i = if i = k then b else bitZ x i := by
  unfold withZ bitZ
  cases b
  · rw [if_neg (by simp), bits_andNot, V_U, V_pow, BitVec.getLsbD_and, BitVec.getLsbD_not, BitVec.getLsbD_twoPow, decide_eq_true hi]
    by_cases h : i = k
    · subst h; simp [hi]
    · have : ¬ k = i := fun e => h e.symm
      simp [h, this]
  · rw [if_pos rfl, bits_or, bits_andNot, V_U, V_U, V_pow, BitVec.getLsbD_or, BitVec.getLsbD_and, BitVec.getLsbD_not, BitVec.getLsbD_twoPow, decide_eq_true hi]
    by_cases h : i = k
    · subst h; simp [hi]
    · have : ¬ k = i := fun e => h e.symm
      simp [h, this]
/-- Two words with the same bits. -/
theorem bits_ext {x y : Int} (hx : In64 x) (hy : In64 y) (h : ∀ i, i < 64 → bitZ x i = bitZ y i) : x = y := by
  rw [← U_V hx, ← U_V hy, ext64 (a := V x) (b := V y) h]
/-- A bit put that stood so. -/
theorem with_self {x : Int} (hx : In64 x) {k : Nat} (hk : k < 64) : withZ x k (bitZ x k) = x :=
  bits_ext (with_in _ _ _) hx fun i hi => by rw [bit_with x hk hi]; split <;> simp_all
theorem with_with (x : Int) {k : Nat} (hk : k < 64) (a b : Bool) : withZ (withZ x k a) k b = withZ x k b :=
  bits_ext (with_in _ _ _) (with_in _ _ _) fun i hi => by rw [bit_with _ hk hi, bit_with _ hk hi, bit_with _ hk hi]; split <;> simp_all
theorem with_comm (x : Int) {k j : Nat} (hk : k < 64) (hj : j < 64) (hne : ¬ k = j) (a b : Bool) : withZ (withZ x k a) j b = withZ (withZ x j b) k a :=
  bits_ext (with_in _ _ _) (with_in _ _ _) fun i hi => by
    rw [bit_with _ hj hi, bit_with _ hk hi, bit_with _ hk hi, bit_with _ hj hi]
    by_cases h1 : i = j
    · subst h1; simp [show ¬ i = k from fun e => hne e.symm]
    · simp [h1]
def toZ (t : HS) (c : Int) : Nat :=
  if t.n 33 = 3 then 0 else if 63 < c % 9223372036854775808 then 0
  else if bitZ c 63 then (if !bitZ (t.n 40) (c % 9223372036854775808).toNat then 0 else if t.v && bitZ (t.n 60) (c % 9223372036854775808).toNat then 2 else 1)
  else (if !bitZ (t.n 39) (c % 9223372036854775808).toNat then 0 else if t.v && bitZ (t.n 59) (c % 9223372036854775808).toNat then 2 else 1)
theorem toZ_lt (t : HS) (c : Int) : toZ t c < 3 := by
  unfold toZ; split; omega; split; omega; split <;> split <;> (try split) <;> omega
/-- P14.6: never to a mode that may do less. -/
theorem toZ_machine {t : HS} {c : Int} (h : t.n 33 = 3) : toZ t c = 0 := by unfold toZ; rw [if_pos h]
theorem toZ_guest {t : HS} {c : Int} (h : toZ t c = 2) : t.v = true := by
  cases hv : t.v with
  | true => rfl
  | false =>
    exfalso
    unfold toZ at h
    simp only [hv, Bool.false_and] at h
    split at h; omega
    split at h; omega
    split at h <;> split at h <;> first | omega | (split at h <;> first | omega | contradiction)
def placeZ (tv c : Int) : Int := if bitZ c 63 && bitZ tv 0 then IntKind.u64.wrap ((tv - tv % 4) + IntKind.u64.wrap (4 * (c % 9223372036854775808))) else tv - tv % 4
/-- The status behind a trap into the machine's mode; into the host's; into the guest's. -/
def stM (s p : Int) (v gva : Bool) : Int := withZ (withZ (withZ (withZ (withZ (withZ s 7 (bitZ s 3)) 3 false) 11 (bitZ p 0)) 12 (bitZ p 1)) 39 v) 38 gva
def stS (s p : Int) : Int := withZ (withZ (withZ s 5 (bitZ s 1)) 1 false) 8 (p == 1)
theorem quietM (s p : Int) (v gva : Bool) : bitZ (stM s p v gva) 3 = false := by
  unfold stM
  rw [bit_with _ (by omega) (by omega), if_neg (by omega), bit_with _ (by omega) (by omega), if_neg (by omega), bit_with _ (by omega) (by omega), if_neg (by omega), bit_with _ (by omega) (by omega), if_neg (by omega), bit_with _ (by omega) (by omega), if_pos rfl]
theorem quietS (s p : Int) : bitZ (stS s p) 1 = false ∧ bitZ (stS s p) 3 = bitZ s 3 := by
  unfold stS
  constructor
  · rw [bit_with _ (by omega) (by omega), if_neg (by omega), bit_with _ (by omega) (by omega), if_pos rfl]
  · rw [bit_with _ (by omega) (by omega), if_neg (by omega), bit_with _ (by omega) (by omega), if_neg (by omega), bit_with _ (by omega) (by omega), if_neg (by omega)]
/-- What the way back reads: MPIE, MPP, MPV. -/
theorem backM (s p : Int) (v gva : Bool) : bitZ (stM s p v gva) 7 = bitZ s 3 ∧ bitZ (stM s p v gva) 11 = bitZ p 0 ∧ bitZ (stM s p v gva) 12 = bitZ p 1 ∧ bitZ (stM s p v gva) 39 = v := by
  unfold stM
  refine ⟨?_, ?_, ?_, ?_⟩ <;> simp (disch := omega) [bit_with]
theorem backS (s p : Int) : bitZ (stS s p) 5 = bitZ s 1 ∧ bitZ (stS s p) 8 = (p == 1) := by
  unfold stS
  refine ⟨?_, ?_⟩ <;> simp (disch := omega) [bit_with]
end Go.Proofs.Ytkfhpmleelmcfaa
