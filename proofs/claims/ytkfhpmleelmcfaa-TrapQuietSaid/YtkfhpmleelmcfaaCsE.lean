/- Layer 12: what is pending (written by gen_cse.py by walkf.py). -/
import Derived.Test.YtkfhpmleelmcfaaCsB
import Derived.Test.YtkfhpmleelmcfaaCsD
namespace Go.Proofs.Ytkfhpmleelmcfaa
open Go.RowKit
set_option linter.unusedVariables false
set_option maxRecDepth 100000

theorem bit12 {x : Int} (hx : In64 x) (k : Nat) : (bits .and .u64 (x / 2 ^ k) 1 == 1) = bitZ x k := has_bit hx k

theorem bit1_ne (x : Int) : (bits .and .u64 x 2 != 0) = bitZ x 1 := by
  have := and_bit (x := x) 1 (by omega)
  rw [show (2 : Int) ^ 1 = 2 from rfl] at this
  rw [bne, this, Bool.not_not]

end Go.Proofs.Ytkfhpmleelmcfaa
