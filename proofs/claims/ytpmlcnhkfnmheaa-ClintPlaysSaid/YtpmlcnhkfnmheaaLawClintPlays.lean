/- The law ClintPlays: from a new clint, and from the zero one. -/
import Derived.Test.YtpmlcnhkfnmheaaLawClintPlaysF
import Derived.Test.YtpmlcnhkfnmheaaLawClintPlaysT
namespace Go.Proofs.Ytpmlcnhkfnmheaa

theorem clintPlays_walk (l : Value) (xs : List ActV) (zero : Bool) (w : World) (hl : ActsIn w.heap.size w l xs) :
    Calls Try.prog 4 #[l, .bool zero] w fun e w' => e = .returned (.bool true) ∧ RowKit.Below w.heap.size w w' := by
  cases zero with
  | false => exact clintPlays_false l xs w hl
  | true => exact clintPlays_true l xs w hl

end Go.Proofs.Ytpmlcnhkfnmheaa
