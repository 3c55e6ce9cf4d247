/- Layer 12: the small functions, the program's and the document's (written by gen_csb.py). -/
import Derived.Test.YtiblfdgmleckiaaCsA
import Derived.LoopTactic
import Derived.IntWalk
import Derived.BigQuiet
import Derived.Deep.QuietTactic
import Derived.Deep.CutBlock
import Derived.Outline
namespace Go.Proofs.Ytiblfdgmleckiaa
open Go.RowKit
set_option linter.unusedVariables false
set_option maxRecDepth 100000

theorem noMode_any (x : Int) (w : World) : Calls Try.prog 40 #[.int .u64 x] w fun e w' => e = .returned (.bool (noModeB x)) ∧ w = w' := by
  go_enter Try.func40, Try.ntmps40
  go_wp2
  go_ret
  exact ⟨rfl, rfl⟩
theorem merge_any (o m v : Int) (w : World) : Calls Try.prog 45 #[.int .u64 o, .int .u64 m, .int .u64 v] w fun e w' => e = .returned (.int .u64 (mergeZ o m v)) ∧ w = w' := by
  go_enter Try.func45, Try.ntmps45
  go_wp2
  go_ret
  exact ⟨rfl, rfl⟩
theorem noTable_any (x : Int) (h0 : 0 ≤ x) (w : World) : Calls Try.prog 41 #[.int .u64 x] w fun e w' => e = .returned (.bool (noTabB x)) ∧ w = w' := by
  unfold noTabB
  cases h1 : (x / 1152921504606846976 != 0)
  · go_enter Try.func41, Try.ntmps41
    go_wp2
    go_ret
    exact ⟨rfl, rfl⟩
  · cases h2 : (x / 1152921504606846976 != 8)
    all_goals
      go_enter Try.func41, Try.ntmps41
      go_wp2
      go_ret
      exact ⟨rfl, rfl⟩
theorem when_3 (b : Bool) (w : World) : Calls Try.prog 26 #[.bool b, .int .i64 3] w fun e w' => e = .returned (.int .u64 (whenZ b 8)) ∧ w = w' := by
  cases b
  all_goals
    go_enter Try.func26, Try.ntmps26
    go_wp2
    go_ret
    exact ⟨rfl, rfl⟩
theorem when_7 (b : Bool) (w : World) : Calls Try.prog 26 #[.bool b, .int .i64 7] w fun e w' => e = .returned (.int .u64 (whenZ b 128)) ∧ w = w' := by
  cases b
  all_goals
    go_enter Try.func26, Try.ntmps26
    go_wp2
    go_ret
    exact ⟨rfl, rfl⟩
theorem when_11 (b : Bool) (w : World) : Calls Try.prog 26 #[.bool b, .int .i64 11] w fun e w' => e = .returned (.int .u64 (whenZ b 2048)) ∧ w = w' := by
  cases b
  all_goals
    go_enter Try.func26, Try.ntmps26
    go_wp2
    go_ret
    exact ⟨rfl, rfl⟩
theorem when_9 (b : Bool) (w : World) : Calls Try.prog 26 #[.bool b, .int .i64 9] w fun e w' => e = .returned (.int .u64 (whenZ b 512)) ∧ w = w' := by
  cases b
  all_goals
    go_enter Try.func26, Try.ntmps26
    go_wp2
    go_ret
    exact ⟨rfl, rfl⟩
theorem when_10 (b : Bool) (w : World) : Calls Try.prog 26 #[.bool b, .int .i64 10] w fun e w' => e = .returned (.int .u64 (whenZ b 1024)) ∧ w = w' := by
  cases b
  all_goals
    go_enter Try.func26, Try.ntmps26
    go_wp2
    go_ret
    exact ⟨rfl, rfl⟩
theorem when_12 (b : Bool) (w : World) : Calls Try.prog 26 #[.bool b, .int .i64 12] w fun e w' => e = .returned (.int .u64 (whenZ b 4096)) ∧ w = w' := by
  cases b
  all_goals
    go_enter Try.func26, Try.ntmps26
    go_wp2
    go_ret
    exact ⟨rfl, rfl⟩

/-! the document's -/
theorem dbit_at (x : Int) (k : Nat) (hk : k < 64) (q : Bool) (hq : bitZ x k = q) (hx : In64 x) (w : World) : Calls Try.prog 27 #[.int .u64 x, .int .u64 k] w fun e w' => e = .returned (.bool q) ∧ w = w' := by
  have h0 := hx.1
  have H := Lib.hid ((has_bit hx k).trans hq)
  clear hx hq
  go_enter Try.func27, Try.ntmps27
  go_wp2
  go_ret
  exact ⟨by rw [← H.out]; rfl, rfl⟩
def modB (x : Int) : Bool := x / 1152921504606846976 == 0 || x / 1152921504606846976 == 8
theorem modB_not (x : Int) : modB x = !noTabB x := by
  unfold modB noTabB
  simp only [bne]
  cases (x / 1152921504606846976 == 0) <;> cases (x / 1152921504606846976 == 8) <;> rfl
theorem dmode_any (x : Int) (h0 : 0 ≤ x) (w : World) : Calls Try.prog 36 #[.int .u64 x] w fun e w' => e = .returned (.bool (!noTabB x)) ∧ w = w' := by
  rw [← modB_not]
  unfold modB
  cases h1 : (x / 1152921504606846976 == 0)
  · cases h2 : (x / 1152921504606846976 == 8)
    all_goals
      go_enter Try.func36, Try.ntmps36
      go_wp2
      go_ret
      exact ⟨rfl, rfl⟩
  · go_enter Try.func36, Try.ntmps36
    go_wp2
    go_ret
    exact ⟨rfl, rfl⟩
theorem dbut_any (x r : Int) (hr : bits .xor .u64 18446744073709551615 x = r) (w : World) : Calls Try.prog 35 #[.int .u64 x] w fun e w' => e = .returned (.int .u64 r) ∧ w = w' := by
  have H := Lib.hid hr
  clear hr
  go_enter Try.func35, Try.ntmps35
  go_wp2
  go_ret
  exact ⟨by rw [← H.out]; rfl, rfl⟩
theorem dtable_any (x m : Int) (h0 : 0 ≤ x) (w : World) : Calls Try.prog 42 #[.int .u64 x, .int .u64 m] w fun e w' => e = .returned (.int .u64 (if noTabB x then 0 else bits .and .u64 x m)) ∧ w = w' := by
  have HM := Lib.hid fun w => dmode_any x h0 w
  generalize noTabB x = q at *
  cases q
  all_goals
    go_enter Try.func42, Try.ntmps42
    go_wp2_with ((with_reducible refine (HM.out _).mono ?_); rintro e1 w1 ⟨rfl, rfl⟩)
    go_ret
    exact ⟨rfl, rfl⟩
end Go.Proofs.Ytiblfdgmleckiaa
