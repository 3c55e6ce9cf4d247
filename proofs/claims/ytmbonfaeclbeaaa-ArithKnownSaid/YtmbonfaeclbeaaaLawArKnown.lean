/- The walk of ArithKnown: the chapter's examples. -/
import Derived.Test.YtmbonfaeclbeaaaLawLow
namespace Go.Proofs.Ytmbonfaeclbeaaa
open Go.RowKit
set_option linter.unusedVariables false

set_option maxHeartbeats 4000000 in
theorem arithKnown_walk (w : World) :
    Calls Try.prog 3 #[] w fun e w' => e = .returned (.bool true) ∧ Below w.heap.size w w' := by
  have HB : Below w.heap.size w w := Below.refl _ _
  have e0 : hiZ (sg 18446744073709551615) (sg 18446744073709551615) = 0 := by decide +kernel
  have e1 : hiZ (sg 18446744073709551615) 18446744073709551615 = 18446744073709551615 := by decide +kernel
  have e2 : hiZ (sg 9223372036854775808) (sg 9223372036854775808) = 4611686018427387904 := by decide +kernel
  have e3 : hiZ 9223372036854775808 2 = 1 := by decide +kernel
  have e4 : remZ 9223372036854775808 18446744073709551615 = 0 := by decide +kernel
  have e5 : divZ 7 0 = 18446744073709551615 := by decide +kernel
  have e6 : remZ 7 0 = 7 := by decide +kernel
  have e7 : divZ 18446744073709551609 2 = 18446744073709551613 := by decide +kernel
  have e8 : remZ 18446744073709551609 2 = 18446744073709551615 := by decide +kernel
  have e9 : divuZ 18446744073709551615 2 = 9223372036854775807 := by decide +kernel
  have e10 : remuZ 18446744073709551615 10 = 5 := by decide +kernel
  have e11 : divuZ 1 0 = 18446744073709551615 := by decide +kernel
  have e12 : remuZ 1 0 = 1 := by decide +kernel
  have e13 : dr (2147483648 * 3) = 18446744071562067968 := by decide +kernel
  have e14 : dr (divZ (dr 2147483648) (dr 18446744073709551615)) = 18446744071562067968 := by decide +kernel
  have e15 : dr (remZ (dr 2147483648) (dr 18446744073709551615)) = 0 := by decide +kernel
  have e16 : dr (divuZ (lw 4294967295) (lw 1)) = 18446744073709551615 := by decide +kernel
  have e17 : dr (remuZ (lw 2147483648) (lw 0)) = 18446744071562067968 := by decide +kernel
  have d0 : doZ 0 false 18446744073709551615 3 = (18446744073709551613, 0) := by decide +kernel
  have d1 : doZ 1 true 1 1 = (0, 1) := by decide +kernel
  have d2 : doZ 8 false 1 1 = (0, 1) := by decide +kernel
  have d3 : doZ (-1) false 1 1 = (0, 1) := by decide +kernel
  go_enter Try.func3, Try.ntmps3
  go_wp2_with (first
    | (go_at_call 11; refine (mulh_any _ _ (by unfold In64; omega) (by unfold In64; omega) _).mono ?_; rintro e w' ⟨rfl, rfl⟩)
    | (go_at_call 12; refine (mulhsu_any _ _ (by unfold In64; omega) (by unfold In64; omega) _).mono ?_; rintro e w' ⟨rfl, rfl⟩)
    | (go_at_call 13; refine (mulhu_any _ _ (by unfold In64; omega) (by unfold In64; omega) _).mono ?_; rintro e w' ⟨rfl, rfl⟩)
    | (go_at_call 15; refine (div_any _ _ (by unfold In64; omega) (by unfold In64; omega) _).mono ?_; rintro e w' ⟨rfl, rfl⟩)
    | (go_at_call 14; refine (rem_any _ _ (by unfold In64; omega) (by unfold In64; omega) _).mono ?_; rintro e w' ⟨rfl, rfl⟩)
    | (go_at_call 16; refine (divu_any _ _ (by unfold In64; omega) (by unfold In64; omega) _).mono ?_; rintro e w' ⟨rfl, rfl⟩)
    | (go_at_call 17; refine (remu_any _ _ (by unfold In64; omega) (by unfold In64; omega) _).mono ?_; rintro e w' ⟨rfl, rfl⟩)
    | (go_at_call 19; refine (divw_any _ _ (by unfold In64; omega) (by unfold In64; omega) _).mono ?_; rintro e w' ⟨rfl, rfl⟩)
    | (go_at_call 20; refine (remw_any _ _ (by unfold In64; omega) (by unfold In64; omega) _).mono ?_; rintro e w' ⟨rfl, rfl⟩)
    | (go_at_call 18; refine (mulw_any _ _ _).mono ?_; rintro e w' ⟨rfl, rfl⟩)
    | (go_at_call 21; refine (divuw_bel _ _ (by unfold In64; omega) (by unfold In64; omega) _).mono ?_; rintro e wn ⟨rfl, hb2⟩; replace HB := HB.trans (hb2.mono HB.size); clear hb2)
    | (go_at_call 22; refine (remuw_bel _ _ (by unfold In64; omega) (by unfold In64; omega) _).mono ?_; rintro e wn ⟨rfl, hb2⟩; replace HB := HB.trans (hb2.mono HB.size); clear hb2)
    | (go_at_call 23; refine (do_any _ _ _ _ (by unfold In64; omega) (by unfold In64; omega) _).mono ?_; rintro e wn ⟨rfl, hb2⟩; replace HB := HB.trans (hb2.mono HB.size); clear hb2)
    | (go_at_call 24; refine (arAwake_any _).mono ?_; rintro e wn ⟨rfl, hb2⟩; replace HB := HB.trans (hb2.mono HB.size); clear hb2))
  go_ret
  exact ⟨rfl, HB⟩

end Go.Proofs.Ytmbonfaeclbeaaa
