/- The walks of layer 2's laws that lay the program beside the document's own answer. -/
import Derived.Test.YtmbonfaeclbeaaaArRef
namespace Go.Proofs.Ytmbonfaeclbeaaa
open Go.RowKit
set_option linter.unusedVariables false

theorem arAwake_any (w : World) : Calls Try.prog 24 #[] w fun e w' => e = .returned (.bool true) ∧ Below w.heap.size w w' := by
  have e1 : hiZ 18446744073709551615 18446744073709551615 = 18446744073709551614 := by decide +kernel
  have e2 : divZ 9223372036854775808 18446744073709551615 = 9223372036854775808 := by decide +kernel
  have e3 : dr (remuZ (lw 7) (lw 4)) = 3 := by decide +kernel
  go_enter Try.func24, Try.ntmps24
  go_wp2_with (first
    | (go_at_call 13; refine (mulhu_any _ _ (by unfold In64; omega) (by unfold In64; omega) _).mono ?_; rintro e w' ⟨rfl, rfl⟩)
    | (go_at_call 15; refine (div_any _ _ (by unfold In64; omega) (by unfold In64; omega) _).mono ?_; rintro e w' ⟨rfl, rfl⟩)
    | (go_at_call 22; refine (remuw_any _ _ (by unfold In64; omega) (by unfold In64; omega) _).mono ?_; rintro e w' ⟨rfl, k, rfl⟩))
  go_ret
  exact ⟨rfl, below_drewN (Below.refl _ _) k⟩

set_option maxHeartbeats 1000000 in
theorem arithProducts_walk (a0 a1 : Int) (w0 : (Lit.int .u64 a0).wf = true) (w1 : (Lit.int .u64 a1).wf = true) (w : World) :
    Calls Try.prog 4 #[.int .u64 a0, .int .u64 a1] w fun e w' => e = .returned (.bool true) ∧ Below w.heap.size w w' := by
  have ha := of_wf w0
  have hb := of_wf w1
  go_enter Try.func4, Try.ntmps4
  go_wp2_with fail
  refine (arAwake_any _).mono ?_
  rintro e w1 ⟨rfl, HB⟩
  go_wp2_with (first
    | (go_at_call 11; refine (mulh_any _ _ ha hb _).mono ?_; rintro e w' ⟨rfl, rfl⟩)
    | (go_at_call 12; refine (mulhsu_any _ _ ha hb _).mono ?_; rintro e w' ⟨rfl, rfl⟩)
    | (go_at_call 13; refine (mulhu_any _ _ ha hb _).mono ?_; rintro e w' ⟨rfl, rfl⟩)
    | (go_at_call 18; refine (mulw_any _ _ _).mono ?_; rintro e w' ⟨rfl, rfl⟩)
    | (go_at_call 25; refine (refMulh_any _ _ ha hb _).mono ?_; rintro e w2 ⟨rfl, hb2⟩; replace HB := HB.trans (hb2.mono HB.size); clear hb2)
    | (go_at_call 26; refine (refMulhsu_any _ _ ha hb _).mono ?_; rintro e w2 ⟨rfl, hb2⟩; replace HB := HB.trans (hb2.mono HB.size); clear hb2)
    | (go_at_call 27; refine (refMulhu_any _ _ ha hb _).mono ?_; rintro e w2 ⟨rfl, hb2⟩; replace HB := HB.trans (hb2.mono HB.size); clear hb2)
    | (go_at_call 28; refine (refMulw_any _ _ ha hb _).mono ?_; rintro e w2 ⟨rfl, hb2⟩; replace HB := HB.trans (hb2.mono HB.size); clear hb2))
  go_ret
  exact ⟨rfl, HB⟩

set_option maxHeartbeats 1000000 in
theorem arithQuotients_walk (a0 a1 : Int) (w0 : (Lit.int .u64 a0).wf = true) (w1 : (Lit.int .u64 a1).wf = true) (w : World) :
    Calls Try.prog 5 #[.int .u64 a0, .int .u64 a1] w fun e w' => e = .returned (.bool true) ∧ Below w.heap.size w w' := by
  have ha := of_wf w0
  have hb := of_wf w1
  go_enter Try.func5, Try.ntmps5
  go_wp2_with fail
  refine (arAwake_any _).mono ?_
  rintro e w1 ⟨rfl, HB⟩
  go_wp2_with (first
    | (go_at_call 15; refine (div_any _ _ ha hb _).mono ?_; rintro e w' ⟨rfl, rfl⟩)
    | (go_at_call 16; refine (divu_any _ _ ha hb _).mono ?_; rintro e w' ⟨rfl, rfl⟩)
    | (go_at_call 14; refine (rem_any _ _ ha hb _).mono ?_; rintro e w' ⟨rfl, rfl⟩)
    | (go_at_call 17; refine (remu_any _ _ ha hb _).mono ?_; rintro e w' ⟨rfl, rfl⟩)
    | (go_at_call 29; refine (refDiv_any _ _ ha hb _).mono ?_; rintro e w' ⟨rfl, rfl⟩)
    | (go_at_call 30; refine (refDivu_any _ _ ha hb _).mono ?_; rintro e w' ⟨rfl, rfl⟩)
    | (go_at_call 31; refine (refRem_any _ _ ha hb _).mono ?_; rintro e w' ⟨rfl, rfl⟩)
    | (go_at_call 32; refine (refRemu_any _ _ ha hb _).mono ?_; rintro e w' ⟨rfl, rfl⟩))
  go_ret
  exact ⟨rfl, HB⟩

set_option maxHeartbeats 1000000 in
theorem arithHalves_walk (a0 a1 : Int) (w0 : (Lit.int .u64 a0).wf = true) (w1 : (Lit.int .u64 a1).wf = true) (w : World) :
    Calls Try.prog 6 #[.int .u64 a0, .int .u64 a1] w fun e w' => e = .returned (.bool true) ∧ Below w.heap.size w w' := by
  have ha := of_wf w0
  have hb := of_wf w1
  go_enter Try.func6, Try.ntmps6
  go_wp2_with fail
  refine (arAwake_any _).mono ?_
  rintro e w1 ⟨rfl, HB⟩
  go_wp2_with (first
    | (go_at_call 19; refine (divw_any _ _ ha hb _).mono ?_; rintro e w' ⟨rfl, rfl⟩)
    | (go_at_call 20; refine (remw_any _ _ ha hb _).mono ?_; rintro e w' ⟨rfl, rfl⟩)
    | (go_at_call 21; refine (divuw_any _ _ ha hb _).mono ?_; rintro e w' ⟨rfl, k, rfl⟩; replace HB := below_drewN HB k)
    | (go_at_call 22; refine (remuw_any _ _ ha hb _).mono ?_; rintro e w' ⟨rfl, k, rfl⟩; replace HB := below_drewN HB k)
    | (go_at_call 33; refine (refDivw_any _ _ ha hb _).mono ?_; rintro e w2 ⟨rfl, hb2⟩; replace HB := HB.trans (hb2.mono HB.size); clear hb2)
    | (go_at_call 35; refine (refRemw_any _ _ ha hb _).mono ?_; rintro e w2 ⟨rfl, hb2⟩; replace HB := HB.trans (hb2.mono HB.size); clear hb2)
    | (go_at_call 34; refine (refDivuw_any _ _ ha hb _).mono ?_; rintro e w2 ⟨rfl, hb2⟩; replace HB := HB.trans (hb2.mono HB.size); clear hb2)
    | (go_at_call 36; refine (refRemuw_any _ _ ha hb _).mono ?_; rintro e w2 ⟨rfl, hb2⟩; replace HB := HB.trans (hb2.mono HB.size); clear hb2))
  go_ret
  exact ⟨rfl, HB⟩

end Go.Proofs.Ytmbonfaeclbeaaa
