/- Layer 12: the small functions, the program's and the document's (written by gen_csb.py). -/
import Derived.Test.YthgjgloedlkaiaaDoorCsA
import Derived.LoopTactic
import Derived.IntWalk
import Derived.BigQuiet
import Derived.Deep.QuietTactic
import Derived.Deep.CutBlock
import Derived.Outline
namespace Go.Proofs.YthgjgloedlkaiaaDoor
open Go.RowKit
set_option linter.unusedVariables false
set_option maxRecDepth 100000

theorem noMode_any (x : Int) (w : World) : Calls Tryd.prog 30 #[.int .u64 x] w fun e w' => e = .returned (.bool (noModeB x)) ∧ w = w' := by
  go_enter Tryd.func30, Tryd.ntmps30
  go_wp2
  go_ret
  exact ⟨rfl, rfl⟩

theorem noTable_any (x : Int) (h0 : 0 ≤ x) (w : World) : Calls Tryd.prog 31 #[.int .u64 x] w fun e w' => e = .returned (.bool (noTabB x)) ∧ w = w' := by
  unfold noTabB
  cases h1 : (x / 1152921504606846976 != 0)
  · go_enter Tryd.func31, Tryd.ntmps31
    go_wp2
    go_ret
    exact ⟨rfl, rfl⟩
  · cases h2 : (x / 1152921504606846976 != 8)
    all_goals
      go_enter Tryd.func31, Tryd.ntmps31
      go_wp2
      go_ret
      exact ⟨rfl, rfl⟩

theorem when_3 (b : Bool) (w : World) : Calls Tryd.prog 24 #[.bool b, .int .i64 3] w fun e w' => e = .returned (.int .u64 (whenZ b 8)) ∧ w = w' := by
  cases b
  all_goals
    go_enter Tryd.func24, Tryd.ntmps24
    go_wp2
    go_ret
    exact ⟨rfl, rfl⟩

theorem when_7 (b : Bool) (w : World) : Calls Tryd.prog 24 #[.bool b, .int .i64 7] w fun e w' => e = .returned (.int .u64 (whenZ b 128)) ∧ w = w' := by
  cases b
  all_goals
    go_enter Tryd.func24, Tryd.ntmps24
    go_wp2
    go_ret
    exact ⟨rfl, rfl⟩

theorem when_11 (b : Bool) (w : World) : Calls Tryd.prog 24 #[.bool b, .int .i64 11] w fun e w' => e = .returned (.int .u64 (whenZ b 2048)) ∧ w = w' := by
  cases b
  all_goals
    go_enter Tryd.func24, Tryd.ntmps24
    go_wp2
    go_ret
    exact ⟨rfl, rfl⟩

theorem when_9 (b : Bool) (w : World) : Calls Tryd.prog 24 #[.bool b, .int .i64 9] w fun e w' => e = .returned (.int .u64 (whenZ b 512)) ∧ w = w' := by
  cases b
  all_goals
    go_enter Tryd.func24, Tryd.ntmps24
    go_wp2
    go_ret
    exact ⟨rfl, rfl⟩

theorem when_10 (b : Bool) (w : World) : Calls Tryd.prog 24 #[.bool b, .int .i64 10] w fun e w' => e = .returned (.int .u64 (whenZ b 1024)) ∧ w = w' := by
  cases b
  all_goals
    go_enter Tryd.func24, Tryd.ntmps24
    go_wp2
    go_ret
    exact ⟨rfl, rfl⟩

theorem when_12 (b : Bool) (w : World) : Calls Tryd.prog 24 #[.bool b, .int .i64 12] w fun e w' => e = .returned (.int .u64 (whenZ b 4096)) ∧ w = w' := by
  cases b
  all_goals
    go_enter Tryd.func24, Tryd.ntmps24
    go_wp2
    go_ret
    exact ⟨rfl, rfl⟩

/-! the document's -/

theorem dbit_at (x : Int) (k : Nat) (hk : k < 64) (q : Bool) (hq : bitZ x k = q) (hx : In64 x) (w : World) : Calls Tryd.prog 25 #[.int .u64 x, .int .u64 k] w fun e w' => e = .returned (.bool q) ∧ w = w' := by
  have h0 := hx.1
  have H := Lib.hid ((has_bit hx k).trans hq)
  clear hx hq
  go_enter Tryd.func25, Tryd.ntmps25
  go_wp2
  go_ret
  exact ⟨by rw [← H.out]; rfl, rfl⟩

def modB (x : Int) : Bool := x / 1152921504606846976 == 0 || x / 1152921504606846976 == 8

theorem modB_not (x : Int) : modB x = !noTabB x := by
  unfold modB noTabB
  simp only [bne]
  cases (x / 1152921504606846976 == 0) <;> cases (x / 1152921504606846976 == 8) <;> rfl

end Go.Proofs.YthgjgloedlkaiaaDoor
