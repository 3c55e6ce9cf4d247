/-
  NARROWER THAN 'FOR EVERY INPUT', by the rows' own cells (each row's printed sentence says how): IrqNexts: laid · IrqAsked: laid · IrqGuests: laid · IrqFewer: laid.
  DERIVED. THE GIVEN ROWS OF THIS SEAT. 4 by the template 'for every input the law returns true; each argument reads behind the call as it read before'; 0 by the template 'total and deterministic' (their statements: YthgjgloedlkaiaaDoorTotals.lean).
  GIVEN WITH THE SEED: the statements are not yours to turn. If you find one false, say at which input.
  Laid BY PROGRAM, IN A SANDBOX (cutbox-rows.mjs): the forced cells as the released guide's own fill.sh prints them over the translation ff5460ffc0d336ae… (all of the seat's roots in one cut). By AI agents, Wed Nov 11 2026. No macro, syntax, notation, axiom, sorry.
-/
import Derived.Test.YthgjgloedlkaiaaDoorChecked
import GoSem.Claim
import GoSem.ClaimJoined
import GoSem.ClaimMapViews
import Derived.JoinedTies
import Derived.KernelRfl
namespace Go.Proofs.YthgjgloedlkaiaaDoor
/- THE CELL 'sum', in the pinned program and in every row, IS THE sha256 OF THE DUMP (.gsa) THAT YthgjgloedlkaiaaDoorProg.lean LOADS. Nothing in Lean hashes anything: it is a label: what it is worth is what the hold of that sum in a sandbox is worth. -/
noncomputable def Tryd.pinned : Pinned := { name := "ythgjgloedlkaiaadoor", sum := "ff5460ffc0d336ae2904e90d4b20d63af38b508abf4f7d4dfabd43c9bee868d6", checked := Tryd.checked }
namespace Rows
def none {H : Type} : Left H := { results := [], args := [] }

/- WHAT THE LISTED PACKAGE-LEVEL VARIABLES READ AS WHEN THE CALL BEGINS. Each datum BY PROGRAM (the guide's laid-datum.mjs) off the statement by which the dump's own 'gosem.cut.vars' lays the variable. In a bare row this is a premise. The card (YthgjgloedlkaiaaDoorCards.lean) ties it to the program's text. -/
def laid_mezzanine_irq_order {H : Type} : DataW H := .agg [.lit (.int .u64 11), .lit (.int .u64 3), .lit (.int .u64 7), .lit (.int .u64 9), .lit (.int .u64 1), .lit (.int .u64 5), .lit (.int .u64 12), .lit (.int .u64 10), .lit (.int .u64 2), .lit (.int .u64 6)]

/-- 'mezzaninelaw13.IrqNexts': WHATEVER THE INPUT: true; the input reads as it did. -/
def irqNextsSpec : ChangeSpec := { name := "irqNexts", fn := fun _ => fun
  | [d1, d2] => { results := [.lit (.bool true)], args := [d1, d2] }
  | _ => none }
def irqNextsRow : OpenClaim := { program := "ythgjgloedlkaiaadoor", sum := "ff5460ffc0d336ae2904e90d4b20d63af38b508abf4f7d4dfabd43c9bee868d6", func := "mezzanine/mezzaninelaw13.IrqNexts", spec := "irqNexts", unfollowed := true, recurses := true, named := ["mezzanine/irq.order"], apart := false, laid := [("mezzanine/irq.order", laid_mezzanine_irq_order)] }
def IrqNextsSaid : Prop := irqNextsRow.holds Tryd.pinned (OpenSpec.ofChange irqNextsSpec)

/-- ITS FALSE NEIGHBOUR: 'it returns false'. Refute it at one input. -/
def irqNextsWrong : ChangeSpec := { name := "irqNexts", fn := fun _ => fun
  | [d1, d2] => { results := [.lit (.bool false)], args := [d1, d2] }
  | _ => none }
def IrqNextsWrongFalsely : Prop := irqNextsRow.holds Tryd.pinned (OpenSpec.ofChange irqNextsWrong)

/-- 'mezzaninelaw13.IrqAsked': WHATEVER THE INPUT: true; the input reads as it did. -/
def irqAskedSpec : ChangeSpec := { name := "irqAsked", fn := fun _ => fun
  | [d1, d2] => { results := [.lit (.bool true)], args := [d1, d2] }
  | _ => none }
def irqAskedRow : OpenClaim := { program := "ythgjgloedlkaiaadoor", sum := "ff5460ffc0d336ae2904e90d4b20d63af38b508abf4f7d4dfabd43c9bee868d6", func := "mezzanine/mezzaninelaw13.IrqAsked", spec := "irqAsked", unfollowed := true, recurses := true, named := ["mezzanine/irq.order"], apart := false, laid := [("mezzanine/irq.order", laid_mezzanine_irq_order)] }
def IrqAskedSaid : Prop := irqAskedRow.holds Tryd.pinned (OpenSpec.ofChange irqAskedSpec)

/-- ITS FALSE NEIGHBOUR: 'it returns false'. Refute it at one input. -/
def irqAskedWrong : ChangeSpec := { name := "irqAsked", fn := fun _ => fun
  | [d1, d2] => { results := [.lit (.bool false)], args := [d1, d2] }
  | _ => none }
def IrqAskedWrongFalsely : Prop := irqAskedRow.holds Tryd.pinned (OpenSpec.ofChange irqAskedWrong)

/-- 'mezzaninelaw13.IrqGuests': WHATEVER THE INPUT: true; the input reads as it did. -/
def irqGuestsSpec : ChangeSpec := { name := "irqGuests", fn := fun _ => fun
  | [d1, d2] => { results := [.lit (.bool true)], args := [d1, d2] }
  | _ => none }
def irqGuestsRow : OpenClaim := { program := "ythgjgloedlkaiaadoor", sum := "ff5460ffc0d336ae2904e90d4b20d63af38b508abf4f7d4dfabd43c9bee868d6", func := "mezzanine/mezzaninelaw13.IrqGuests", spec := "irqGuests", unfollowed := true, recurses := true, named := ["mezzanine/irq.order"], apart := false, laid := [("mezzanine/irq.order", laid_mezzanine_irq_order)] }
def IrqGuestsSaid : Prop := irqGuestsRow.holds Tryd.pinned (OpenSpec.ofChange irqGuestsSpec)

/-- ITS FALSE NEIGHBOUR: 'it returns false'. Refute it at one input. -/
def irqGuestsWrong : ChangeSpec := { name := "irqGuests", fn := fun _ => fun
  | [d1, d2] => { results := [.lit (.bool false)], args := [d1, d2] }
  | _ => none }
def IrqGuestsWrongFalsely : Prop := irqGuestsRow.holds Tryd.pinned (OpenSpec.ofChange irqGuestsWrong)

/-- 'mezzaninelaw13.IrqFewer': WHATEVER THE INPUT: true; the input reads as it did. -/
def irqFewerSpec : ChangeSpec := { name := "irqFewer", fn := fun _ => fun
  | [d1, d2, d3] => { results := [.lit (.bool true)], args := [d1, d2, d3] }
  | _ => none }
def irqFewerRow : OpenClaim := { program := "ythgjgloedlkaiaadoor", sum := "ff5460ffc0d336ae2904e90d4b20d63af38b508abf4f7d4dfabd43c9bee868d6", func := "mezzanine/mezzaninelaw13.IrqFewer", spec := "irqFewer", unfollowed := true, recurses := true, named := ["mezzanine/irq.order"], apart := false, laid := [("mezzanine/irq.order", laid_mezzanine_irq_order)] }
def IrqFewerSaid : Prop := irqFewerRow.holds Tryd.pinned (OpenSpec.ofChange irqFewerSpec)

/-- ITS FALSE NEIGHBOUR: 'it returns false'. Refute it at one input. -/
def irqFewerWrong : ChangeSpec := { name := "irqFewer", fn := fun _ => fun
  | [d1, d2, d3] => { results := [.lit (.bool false)], args := [d1, d2, d3] }
  | _ => none }
def IrqFewerWrongFalsely : Prop := irqFewerRow.holds Tryd.pinned (OpenSpec.ofChange irqFewerWrong)

/- THE SECOND FORM. 'bulk': how many values and letters a reading holds, each counted each time it is reached (what is shared counts as often as it is met; a slice's spare places count too). A statement '..UptoSaid' is the law's where the arguments, and the package variables that the reading takes, are together of bulk at most 1048576: NARROWER than '..Said'. Prove '..Said' where nothing that the law and all that it calls make is longer than what came in: it says more and counts as full. Else prove '..UptoSaid'. A law counts once. -/
mutual
def uptoBulk {H : Type} : DataW H → Nat
  | .lit (.string bytes) => bytes.length + 1
  | .lit _ => 1
  | .nil => 1
  | .ptr d => uptoBulk d + 1
  | .slice elems spare => uptoBulkAll elems + uptoBulkAll spare + 1
  | .agg parts => uptoBulkAll parts + 1
  | .iface _ d => uptoBulk d + 1
  | .map entries => uptoBulkEntries entries + 1
  | .held _ => 1
def uptoBulkAll {H : Type} : List (DataW H) → Nat
  | [] => 0
  | d :: r => uptoBulk d + uptoBulkAll r
def uptoBulkEntries {H : Type} : List (Lit × DataW H) → Nat
  | [] => 0
  | x :: r => uptoBulkEntry x + uptoBulkEntries r
def uptoBulkEntry {H : Type} : Lit × DataW H → Nat
  | (.string bytes, d) => bytes.length + uptoBulk d + 1
  | (_, d) => uptoBulk d + 1
 end
def uptoSmall : (H : Type) → List (DataW H) → Bool := fun _ ds => decide (uptoBulkAll ds ≤ 1048576)
def OpenSpec.upto (s : _root_.Go.ChangeSpec) : _root_.Go.OpenSpec := { _root_.Go.OpenSpec.ofChange s with cond := some uptoSmall }

/-- 'mezzaninelaw13.IrqNexts', WHERE WHAT IT READS IS OF BULK AT MOST 1048576: true; the input reads as it did. -/
def irqNextsUptoRow : OpenClaim := { program := "ythgjgloedlkaiaadoor", sum := "ff5460ffc0d336ae2904e90d4b20d63af38b508abf4f7d4dfabd43c9bee868d6", func := "mezzanine/mezzaninelaw13.IrqNexts", spec := "irqNexts", unfollowed := true, recurses := true, named := ["mezzanine/irq.order"], apart := false, laid := [("mezzanine/irq.order", laid_mezzanine_irq_order)], narrowed := true }
def IrqNextsUptoSaid : Prop := irqNextsUptoRow.holds Tryd.pinned (OpenSpec.upto irqNextsSpec)

/-- 'mezzaninelaw13.IrqAsked', WHERE WHAT IT READS IS OF BULK AT MOST 1048576: true; the input reads as it did. -/
def irqAskedUptoRow : OpenClaim := { program := "ythgjgloedlkaiaadoor", sum := "ff5460ffc0d336ae2904e90d4b20d63af38b508abf4f7d4dfabd43c9bee868d6", func := "mezzanine/mezzaninelaw13.IrqAsked", spec := "irqAsked", unfollowed := true, recurses := true, named := ["mezzanine/irq.order"], apart := false, laid := [("mezzanine/irq.order", laid_mezzanine_irq_order)], narrowed := true }
def IrqAskedUptoSaid : Prop := irqAskedUptoRow.holds Tryd.pinned (OpenSpec.upto irqAskedSpec)

/-- 'mezzaninelaw13.IrqGuests', WHERE WHAT IT READS IS OF BULK AT MOST 1048576: true; the input reads as it did. -/
def irqGuestsUptoRow : OpenClaim := { program := "ythgjgloedlkaiaadoor", sum := "ff5460ffc0d336ae2904e90d4b20d63af38b508abf4f7d4dfabd43c9bee868d6", func := "mezzanine/mezzaninelaw13.IrqGuests", spec := "irqGuests", unfollowed := true, recurses := true, named := ["mezzanine/irq.order"], apart := false, laid := [("mezzanine/irq.order", laid_mezzanine_irq_order)], narrowed := true }
def IrqGuestsUptoSaid : Prop := irqGuestsUptoRow.holds Tryd.pinned (OpenSpec.upto irqGuestsSpec)

/-- 'mezzaninelaw13.IrqFewer', WHERE WHAT IT READS IS OF BULK AT MOST 1048576: true; the input reads as it did. -/
def irqFewerUptoRow : OpenClaim := { program := "ythgjgloedlkaiaadoor", sum := "ff5460ffc0d336ae2904e90d4b20d63af38b508abf4f7d4dfabd43c9bee868d6", func := "mezzanine/mezzaninelaw13.IrqFewer", spec := "irqFewer", unfollowed := true, recurses := true, named := ["mezzanine/irq.order"], apart := false, laid := [("mezzanine/irq.order", laid_mezzanine_irq_order)], narrowed := true }
def IrqFewerUptoSaid : Prop := irqFewerUptoRow.holds Tryd.pinned (OpenSpec.upto irqFewerSpec)

end Rows
end Go.Proofs.YthgjgloedlkaiaaDoor
