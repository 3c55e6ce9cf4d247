/- Layer 12: numbers of no register (written by gen_cso.py). -/
import Derived.Test.YtiblfdgmleckiaaCsR
import Derived.Test.YtiblfdgmleckiaaCnE
namespace Go.Proofs.Ytiblfdgmleckiaa
open Go.RowKit
set_option linter.unusedVariables false
set_option maxRecDepth 100000

theorem known_no {no : Int} (h : knownN no = false) : (∀ k, k < 56 → ¬ (noT k : Int) = no) := fun k hk e => by
  have : knownN no = true := by
    unfold knownN
    rw [decide_eq_true_eq, ← e, ixN_at hk]; exact hk
  rw [this] at h; cases h
theorem fld_known : ∀ k, k < 38 → ∃ j, j < 56 ∧ (noT j : Int) = noF k := by decide +kernel
theorem view_known : ∀ x ∈ ([256, 836, 1604, 324, 580, 260, 1540, 516] : List Int), ∃ j, j < 56 ∧ (noT j : Int) = x := by decide +kernel
theorem nine_known {no : Int} (h : nineB no = true) : ∃ j, j < 56 ∧ (noT j : Int) = no := by
  unfold nineB at h
  simp only [Bool.or_eq_true, beq_iff_eq] at h
  rcases h with h | h | h | h | h | h | h | h | h <;> subst h <;> decide +kernel
theorem write_unknown (s : HS) {no : Int} (v : Int) (h : knownN no = false) : writeZ s no v = s := by
  have hn := known_no h
  have h9 : nineB no = false := by
    cases c : nineB no
    · rfl
    · obtain ⟨j, hj, e⟩ := nine_known c
      exact absurd e (hn j hj)
  have hm : meantZ s.v no = no := by unfold meantZ; rw [h9, Bool.and_false]; rfl
  unfold writeZ
  rw [hm]
  have hx : ¬ ixF no < 38 := fun c => by
    rcases ixF_cases no with ⟨_, q⟩ | ⟨q, _⟩
    · obtain ⟨j, hj, e⟩ := fld_known _ c
      exact absurd (e.trans q) (hn j hj)
    · omega
  have hv : ∀ x ∈ ([256, 836, 1604, 324, 580, 260, 1540, 516] : List Int), ¬ no = x := fun x hx' e => by
    obtain ⟨j, hj, e2⟩ := view_known x hx'
    exact absurd (e2.trans e.symm) (hn j hj)
  unfold writeM viewW
  rw [if_neg hx, if_neg (hv 256 (by decide)), if_neg (hv 836 (by decide)), if_neg (hv 1604 (by decide)), if_neg (hv 324 (by decide)), if_neg (hv 580 (by decide)), if_neg (hv 260 (by decide)), if_neg (hv 1540 (by decide)), if_neg (hv 516 (by decide))]
end Go.Proofs.Ytiblfdgmleckiaa
