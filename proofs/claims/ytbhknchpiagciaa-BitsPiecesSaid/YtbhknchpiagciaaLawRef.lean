/- The walks of the laws that hold the program beside the document's own answers: pieces and signs. -/
import Derived.Test.YtbhknchpiagciaaRefD
namespace Go.Proofs.Ytbhknchpiagciaa
open Go.RowKit
set_option linter.unusedVariables false

set_option maxHeartbeats 800000 in
theorem bitsPieces_walk (a0 : Int) (a1 : Int) (a2 : Int) (a3 : Int) (w0 : (Lit.int .u64 a0).wf = true) (w1 : (Lit.int .u64 a1).wf = true) (w2 : (Lit.int .i64 a2).wf = true) (w3 : (Lit.int .i64 a3).wf = true) (w : World) :
    Calls Try.prog 4 #[.int .u64 a0, .int .u64 a1, .int .i64 a2, .int .i64 a3] w fun e w' => e = .returned (.bool true) ∧ Below w.heap.size w w' := by
  have ha := of_wf w0
  have hb := of_wf w1
  clear w0 w1 w2 w3
  go_enter Try.func4, Try.ntmps4
  go_wp2_with (first
      | (go_at_call 15; refine (awake_any _).mono ?_; rintro e wn ⟨rfl, HB⟩)
      | (go_at_call 12; refine (mask_any _ _).mono ?_; rintro e w' ⟨rfl, rfl⟩)
      | (go_at_call 13; refine (field_any _ _ _ (by first | exact U_in _ | assumption) _).mono ?_; rintro e w' ⟨rfl, q, rfl⟩; replace HB := below_drewN HB q)
      | (go_at_call 14; refine (put_any _ _ _ _ (by first | exact U_in _ | assumption) _).mono ?_; rintro e w' ⟨rfl, rfl⟩)
      | (go_at_call 22; refine (refMask_any _ _).mono ?_; rintro e w2 ⟨rfl, hb2⟩; replace HB := HB.trans (hb2.mono HB.size); clear hb2)
      | (go_at_call 23; refine (refField_any _ _ _ (by first | exact U_in _ | assumption) _).mono ?_; rintro e w2 ⟨rfl, hb2⟩; replace HB := HB.trans (hb2.mono HB.size); clear hb2)
      | (go_at_call 24; refine (refPut_any _ _ _ _ (by first | exact U_in _ | assumption) (by first | exact U_in _ | assumption) _).mono ?_; rintro e w2 ⟨rfl, hb2⟩; replace HB := HB.trans (hb2.mono HB.size); clear hb2))
  go_ret
  exact ⟨rfl, HB⟩

set_option maxHeartbeats 800000 in
theorem bitsSigns_walk (a0 : Int) (a1 : Int) (w0 : (Lit.int .u64 a0).wf = true) (w1 : (Lit.int .i64 a1).wf = true) (w : World) :
    Calls Try.prog 5 #[.int .u64 a0, .int .i64 a1] w fun e w' => e = .returned (.bool true) ∧ Below w.heap.size w w' := by
  have ha := of_wf w0
  clear w0 w1
  go_enter Try.func5, Try.ntmps5
  go_wp2_with (first
      | (go_at_call 15; refine (awake_any _).mono ?_; rintro e wn ⟨rfl, HB⟩)
      | (go_at_call 16; refine (sext_any _ _ _).mono ?_; rintro e w' ⟨rfl, rfl⟩)
      | (go_at_call 17; refine (canon_any _ _ (by first | exact U_in _ | assumption) _).mono ?_; rintro e w' ⟨rfl, rfl⟩)
      | (go_at_call 25; refine (refSext_any _ _ (by first | exact U_in _ | assumption) _).mono ?_; rintro e w2 ⟨rfl, hb2⟩; replace HB := HB.trans (hb2.mono HB.size); clear hb2)
      | (go_at_call 26; refine (refCanon_any _ _ (by first | exact U_in _ | assumption) _).mono ?_; rintro e w2 ⟨rfl, hb2⟩; replace HB := HB.trans (hb2.mono HB.size); clear hb2))
  go_ret
  exact ⟨rfl, HB⟩

end Go.Proofs.Ytbhknchpiagciaa
