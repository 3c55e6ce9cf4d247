/- The walks of layer 1's laws that speak without the document's own answer. -/
import Derived.Test.YtbhknchpiagciaaLists
namespace Go.Proofs.Ytbhknchpiagciaa
open Go.RowKit
set_option linter.unusedVariables false

theorem awake_any (w : World) : Calls Try.prog 15 #[] w fun e w' => e = .returned (.bool true) ∧ Below w.heap.size w w' := by
  have e1 : U (fieldB (V 43981) 4 8) = 188 := by decide +kernel
  have e2 : U (sextB (V 128) 8) = 18446744073709551488 := by decide +kernel
  have e3 : U (ofB [0, 3]) = 9 := by decide +kernel
  go_enter Try.func15, Try.ntmps15
  go_wp2_with fail
  refine (field_any _ _ _ (by unfold In64; omega) _).mono ?_
  rintro e w' ⟨rfl, k, rfl⟩
  go_wp2_with fail
  refine (sext_any _ _ _).mono ?_
  rintro e w' ⟨rfl, rfl⟩
  go_wp2_with fail
  refine (of_any _ [0, 3] (w.heap.size + 1) _ ?_).mono ?_
  · refine ⟨_, _, rfl, by decide, .inr ⟨w.heap.size, 0, rfl, by omega, fun i hi => ?_⟩⟩
    match i, hi with
    | 0, _ => exact (World.cell?_alloc_at _ _ _ _ rfl)
    | 1, _ => exact (World.cell?_alloc_at _ _ _ _ rfl)
  rintro e w' ⟨rfl, rfl⟩
  go_wp2
  go_ret
  exact ⟨rfl, (below_drewN (Below.refl _ _) k).alloc (Nat.le_refl _) _⟩

end Go.Proofs.Ytbhknchpiagciaa
