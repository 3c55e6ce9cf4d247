/- The contracts of the document's own answers for layer 1: masks, pieces told and put, signs. -/
import Derived.Test.YtmbonfaeclbeaaaRef
namespace Go.Proofs.Ytmbonfaeclbeaaa
open Go.RowKit
set_option linter.unusedVariables false

/-- What stands when a word has been split into a new array, and a second one laid behind it. -/
theorem two_arrays {w w1 : World} (hb : Below w.heap.size w w1) (f : Nat → Bool) : HoldsB (((w1.alloc (.cells (barr 64 fun _ => false) 52)).setRow w1.heap.size (barr 64 f)).alloc (.cells (barr 64 fun _ => false) 52)) w1.heap.size 52 64 f ∧
    HoldsB (((w1.alloc (.cells (barr 64 fun _ => false) 52)).setRow w1.heap.size (barr 64 f)).alloc (.cells (barr 64 fun _ => false) 52)) (w1.heap.size + 1) 52 64 (fun _ => false) ∧
    Below w.heap.size w (((w1.alloc (.cells (barr 64 fun _ => false) 52)).setRow w1.heap.size (barr 64 f)).alloc (.cells (barr 64 fun _ => false) 52)) := by
  have hs := hb.size
  have e := laid_size w1 (.cells (barr 64 fun _ => false) 52) w1.heap.size (barr 64 f)
  refine ⟨(HoldsB.laid w1 52 64 _ f).alloc _, ?_, (below_setRow (hb.alloc hs _) hs _).alloc (by rw [e]; omega) _⟩
  have := HoldsB.new ((w1.alloc (.cells (barr 64 fun _ => false) 52)).setRow w1.heap.size (barr 64 f)) 52 64 (fun _ => false)
  rw [e] at this; exact this

end Go.Proofs.Ytmbonfaeclbeaaa
