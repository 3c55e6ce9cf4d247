/- Layer 11: Name, Known; small functions. -/
import Derived.Test.YtiblfdgmleckiaaCnD
namespace Go.Proofs.Ytiblfdgmleckiaa
open Go.RowKit
set_option linter.unusedVariables false
set_option maxRecDepth 100000

theorem find_is (no : Int) (w : World) : Calls Try.prog 43 #[.int .i64 no] w fun e w' => ∃ x : Int, e = .returned (.tuple #[.agg #[.int .i64 x, .string (nameN no)], .bool (knownN no)]) ∧ Below w.heap.size w w' := by
  rcases ixN_cases no with ⟨h, _⟩ | ⟨h, _⟩
  · have e : knownN no = true := by unfold knownN; exact decide_eq_true h
    rw [e]; exact (find_yes no h w).mono fun e w' ⟨a, b⟩ => ⟨no, a, b⟩
  · have e : knownN no = false := by unfold knownN; rw [h]; rfl
    have e2 : nameN no = ⟨#[]⟩ := by unfold nameN; rw [h]; rfl
    rw [e, e2]; exact (find_no no h w).mono fun e w' ⟨a, b⟩ => ⟨0, a, b⟩

set_option maxHeartbeats 1000000 in
theorem known_any (no : Int) (w : World) : Calls Try.prog 24 #[.int .i64 no] w fun e w' => e = .returned (.bool (knownN no)) ∧ Below w.heap.size w w' := by
  have HF := Lib.hid fun w => find_is no w
  generalize nameN no = nm at *
  generalize knownN no = q at *
  go_enter Try.func24, Try.ntmps24
  go_wp2_with (fail)
  (with_reducible refine (HF.out _).mono ?_)
  rintro e w1 ⟨x, rfl, hb1⟩
  have HB := Lib.hid hb1
  clear hb1 HF
  go_wp2
  go_ret
  exact ⟨rfl, HB.out.alloc HB.out.size _⟩

end Go.Proofs.Ytiblfdgmleckiaa
