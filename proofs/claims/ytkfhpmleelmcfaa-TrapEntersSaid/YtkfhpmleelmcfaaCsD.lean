/- Layer 12: part, meant, what is pending (written by gen_csd.py by walkf.py). -/
import Derived.Test.YtkfhpmleelmcfaaCsB
import Derived.Test.YtkfhpmleelmcfaaCsC
namespace Go.Proofs.Ytkfhpmleelmcfaa
open Go.RowKit
set_option linter.unusedVariables false
set_option maxRecDepth 100000

def partC (t : HS) (no : Int) : Int := if (no == 324 || no == 260) = true then bits .and .u64 546 (t.n 40) else if (no == 1604 || no == 1540) = true then 5188 else if (no == 580 || no == 516) = true then bits .and .u64 1092 (t.n 60) else 0

theorem meant_yes {no : Int} (h : nineB no = true) : IntKind.i64.wrap (IntKind.i64.wrap (no + 512) - 256) = no + 256 := by
  unfold nineB at h
  simp only [Bool.or_eq_true, beq_iff_eq] at h
  rcases h with h | h | h | h | h | h | h | h | h <;> subst h <;> rfl

end Go.Proofs.Ytkfhpmleelmcfaa
