/- Layer 12: the small functions, the program's and the document's (written by gen_csb.py). -/
import Derived.Test.YtkfhpmleelmcfaaCsA
import Derived.LoopTactic
import Derived.IntWalk
import Derived.BigQuiet
import Derived.Deep.QuietTactic
import Derived.Deep.CutBlock
import Derived.Outline
namespace Go.Proofs.Ytkfhpmleelmcfaa
open Go.RowKit
set_option linter.unusedVariables false
set_option maxRecDepth 100000

theorem noMode_any (x : Int) (w : World) : Calls Try.prog 33 #[.int .u64 x] w fun e w' => e = .returned (.bool (noModeB x)) ∧ w = w' := by
  go_enter Try.func33, Try.ntmps33
  go_wp2
  go_ret
  exact ⟨rfl, rfl⟩

theorem noTable_any (x : Int) (h0 : 0 ≤ x) (w : World) : Calls Try.prog 34 #[.int .u64 x] w fun e w' => e = .returned (.bool (noTabB x)) ∧ w = w' := by
  unfold noTabB
  cases h1 : (x / 1152921504606846976 != 0)
  · go_enter Try.func34, Try.ntmps34
    go_wp2
    go_ret
    exact ⟨rfl, rfl⟩
  · cases h2 : (x / 1152921504606846976 != 8)
    all_goals
      go_enter Try.func34, Try.ntmps34
      go_wp2
      go_ret
      exact ⟨rfl, rfl⟩

/-! the document's -/

def modB (x : Int) : Bool := x / 1152921504606846976 == 0 || x / 1152921504606846976 == 8

theorem modB_not (x : Int) : modB x = !noTabB x := by
  unfold modB noTabB
  simp only [bne]
  cases (x / 1152921504606846976 == 0) <;> cases (x / 1152921504606846976 == 8) <;> rfl

end Go.Proofs.Ytkfhpmleelmcfaa
