/- Layer 12: reading (written by gen_csg.py by walkf.py). -/
import Derived.Test.YtkfhpmleelmcfaaCsE
import Derived.Test.YtkfhpmleelmcfaaCsF
namespace Go.Proofs.Ytkfhpmleelmcfaa
open Go.RowKit
set_option linter.unusedVariables false
set_option maxRecDepth 100000

theorem at_some {b : Nat} {no : Int} (h : (atF b no).isSome = true) : ixF no < 38 ∧ atF b no = some ⟨b, clF (ixF no), none⟩ := by
  unfold atF at *
  by_cases c : ixF no < 38
  · exact ⟨c, if_pos c⟩
  · rw [if_neg c] at h; cases h

theorem at_none {b : Nat} {no : Int} (h : (atF b no).isSome = false) : ¬ ixF no < 38 := fun c => by
  unfold atF at h; rw [if_pos c] at h; cases h

end Go.Proofs.Ytkfhpmleelmcfaa
