/- P1.4, P1.6: the numbers of a word's ones as a list; the next multiple. Plain Lean. -/
import Derived.Test.YtbhknchpiagciaaLists
namespace Go.Proofs.Ytbhknchpiagciaa
open Go.RowKit
set_option linter.unusedVariables false

theorem ones_get {w : BitVec 64} {k : Nat} (h : k < (onesB w).length) : 0 ≤ (onesB w).getD k 0 ∧ (onesB w).getD k 0 < 64 ∧ bitB w ((onesB w).getD k 0) = true := by
  unfold onesB onesK at *
  rw [List.length_map] at h
  have hm := List.getElem_mem (l := (List.range 64).filter w.getLsbD) h
  rw [List.mem_filter, List.mem_range] at hm
  have e : (((List.range 64).filter w.getLsbD).map Int.ofNat).getD k 0 = (((List.range 64).filter w.getLsbD)[k] : Nat) := by
    simp [List.getD, h]
  rw [e]
  generalize ((List.range 64).filter w.getLsbD)[k] = j at hm
  refine ⟨by omega, by omega, ?_⟩
  unfold bitB; simp [hm.2]
theorem ones_rise {w : BitVec 64} {k : Nat} (h : k + 1 < (onesB w).length) : (onesB w).getD k 0 < (onesB w).getD (k + 1) 0 := by
  unfold onesB onesK at *
  rw [List.length_map] at h
  have hp : List.Pairwise (· < ·) ((List.range 64).filter w.getLsbD) := List.Pairwise.filter _ List.pairwise_lt_range
  have hr := (List.pairwise_iff_getElem.1 hp) k (k + 1) (by omega) h (by omega)
  have e : ∀ j (hj : j < ((List.range 64).filter w.getLsbD).length), (((List.range 64).filter w.getLsbD).map Int.ofNat).getD j 0 = (((List.range 64).filter w.getLsbD)[j] : Nat) := by
    intro j hj; simp [List.getD, hj]
  rw [e k (by omega), e (k + 1) h]; omega
theorem of_ones (w : BitVec 64) : ofB (onesB w) = w := by
  refine ext64 fun i hi => ?_
  unfold ofB; rw [bit_ofF, decide_eq_true hi, Bool.true_and, Bool.eq_iff_iff, decide_eq_true_eq]
  unfold onesB onesK
  rw [List.mem_map]
  constructor
  · rintro ⟨j, hj, e⟩
    rw [List.mem_filter] at hj
    obtain rfl : j = i := by have := e; simp at this; omega
    exact hj.2
  · intro h
    exact ⟨i, by rw [List.mem_filter, List.mem_range]; exact ⟨hi, h⟩, rfl⟩
theorem ones_len (w : BitVec 64) : (onesB w).length ≤ 64 := ones_le w 64

/-- What is told of Up. -/
theorem up_told {a s : Int} (ha : In64 a) (hs : In64 s) :
    ((upZ a s).2 = false → (upZ a s).1 = 0 ∧ (s = 0 ∨ ¬ s = 0 ∧ ¬ a % s = 0 ∧ a / s = 18446744073709551615 / s)) ∧
    ((upZ a s).2 = true → ¬ s = 0 ∧ In64 (upZ a s).1 ∧ (upZ a s).1 % s = 0 ∧ a ≤ (upZ a s).1 ∧ (upZ a s).1 - a < s ∧ upZ (upZ a s).1 s = ((upZ a s).1, true)) := by
  unfold In64 at ha hs
  by_cases h : s = 0
  · subst h; rw [up_zero]; simp
  have b1 := Int.emod_nonneg a h
  have b2 := Int.emod_lt_of_pos a (show 0 < s by omega)
  by_cases h1 : a % s = 0
  · rw [up_even h h1]
    refine ⟨by simp, fun _ => ⟨h, ⟨ha.1, ha.2⟩, h1, Int.le_refl _, by simp; omega, up_even h h1⟩⟩
  by_cases h2 : a + (s - a % s) < 18446744073709551616
  · rw [up_fits h h1 h2]
    have e : (a + (s - a % s)) % s = 0 := by
      have h3 := Int.mul_ediv_add_emod a s
      rw [show a + (s - a % s) = s * (a / s + 1) by rw [Int.mul_add]; omega]
      exact Int.mul_emod_right _ _
    refine ⟨by simp, fun _ => ⟨h, ⟨by simp; omega, by simpa using h2⟩, e, by simp; omega, by simp; omega, up_even h e⟩⟩
  · rw [up_over h h1 h2]
    refine ⟨fun _ => ⟨rfl, .inr ⟨h, h1, ?_⟩⟩, by simp⟩
    have hp : 0 < s := by omega
    have h3 := Int.mul_ediv_add_emod a s
    have h4 : a / s ≤ 18446744073709551615 / s := Int.ediv_le_ediv hp (by omega)
    have h5 : 18446744073709551615 / s < a / s + 1 := by
      rw [Int.ediv_lt_iff_lt_mul hp, Int.add_mul, Int.mul_comm (a / s) s]; omega
    omega

end Go.Proofs.Ytbhknchpiagciaa
