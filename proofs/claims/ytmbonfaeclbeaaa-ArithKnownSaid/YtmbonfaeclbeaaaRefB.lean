/- The contracts of the document's own answers for layer 1: pieces put, signs drawn out. -/
import Derived.Test.YtmbonfaeclbeaaaRefA
namespace Go.Proofs.Ytmbonfaeclbeaaa
open Go.RowKit
set_option linter.unusedVariables false

/-- A new array, written whole with a word's bits, behind what was there. -/
theorem one_array {w w1 : World} (hb : Below w.heap.size w w1) (f : Nat → Bool) : HoldsB ((w1.alloc (.cells (barr 64 fun _ => false) 52)).setRow w1.heap.size (barr 64 f)) w1.heap.size 52 64 f ∧
    Below w.heap.size w ((w1.alloc (.cells (barr 64 fun _ => false) 52)).setRow w1.heap.size (barr 64 f)) ∧ ((w1.alloc (.cells (barr 64 fun _ => false) 52)).setRow w1.heap.size (barr 64 f)).heap.size = w1.heap.size + 1 :=
  ⟨HoldsB.laid w1 52 64 _ f, below_setRow (hb.alloc hb.size _) hb.size _, laid_size w1 _ _ _⟩

end Go.Proofs.Ytmbonfaeclbeaaa
