/-
  NARROWER THAN 'FOR EVERY INPUT', by the rows' own cells (each row's printed sentence says how): BusKnown: laid · BusPlays: laid · BusSame: laid · BusApart: laid.
  DERIVED. THE GIVEN ROWS OF THIS SEAT. 4 by the template 'for every input the law returns true; each argument reads behind the call as it read before'; 0 by the template 'total and deterministic' (their statements: YtbcnkhfpogglmaaGreatDoorTotals.lean).
  GIVEN WITH THE SEED: the statements are not yours to turn. If you find one false, say at which input.
  Laid BY PROGRAM, IN A SANDBOX (cutbox-rows.mjs): the forced cells as the released guide's own fill.sh prints them over the translation e98de582cfabd61e… (all of the seat's roots in one cut). By AI agents, Wed Nov 11 2026. No macro, syntax, notation, axiom, sorry.
-/
import Derived.Test.YtbcnkhfpogglmaaGreatDoorChecked
import GoSem.Claim
import GoSem.ClaimJoined
import GoSem.ClaimMapViews
import Derived.JoinedTies
import Derived.KernelRfl
namespace Go.Proofs.YtbcnkhfpogglmaaGreatDoor
/- THE CELL 'sum', in the pinned program and in every row, IS THE sha256 OF THE DUMP (.gsa) THAT YtbcnkhfpogglmaaGreatDoorProg.lean LOADS. Nothing in Lean hashes anything: it is a label: what it is worth is what the hold of that sum in a sandbox is worth. -/
noncomputable def Tryz.pinned : Pinned := { name := "ytbcnkhfpogglmaagreatdoor", sum := "e98de582cfabd61e836c365ec8ce9ec2438105cfd8cd2f30b4370501084cd254", checked := Tryz.checked }
namespace Rows
def none {H : Type} : Left H := { results := [], args := [] }

/- WHAT THE LISTED PACKAGE-LEVEL VARIABLES READ AS WHEN THE CALL BEGINS. Each datum BY PROGRAM (the guide's laid-datum.mjs) off the statement by which the dump's own 'gosem.cut.vars' lays the variable. In a bare row this is a premise. The card (YtbcnkhfpogglmaaGreatDoorCards.lean) ties it to the program's text. -/
def laid_mezzanine_plic_groups {H : Type} : DataW H := .agg [.agg [.lit (.int .i64 0), .lit (.int .u64 0), .lit (.int .u64 4), .lit (.int .u64 32)], .agg [.lit (.int .i64 1), .lit (.int .u64 4096), .lit (.int .u64 4), .lit (.int .u64 1)], .agg [.lit (.int .i64 2), .lit (.int .u64 8192), .lit (.int .u64 128), .lit (.int .u64 2)], .agg [.lit (.int .i64 3), .lit (.int .u64 2097152), .lit (.int .u64 4096), .lit (.int .u64 2)], .agg [.lit (.int .i64 4), .lit (.int .u64 2097156), .lit (.int .u64 4096), .lit (.int .u64 2)]]
def laid_mezzanine_uart_kept {H : Type} : DataW H := .agg [.lit (.int .u8 0), .lit (.int .u8 15), .lit (.int .u8 1), .lit (.int .u8 255), .lit (.int .u8 31), .lit (.int .u8 0), .lit (.int .u8 0), .lit (.int .u8 255), .lit (.int .u8 255), .lit (.int .u8 255)]

/-- 'mezzaninelaw07.BusKnown': WHATEVER THE INPUT: true; the input reads as it did. -/
def busKnownSpec : ChangeSpec := { name := "busKnown", fn := fun _ => fun
  | [] => { results := [.lit (.bool true)], args := [] }
  | _ => none }
def busKnownRow : OpenClaim := { program := "ytbcnkhfpogglmaagreatdoor", sum := "e98de582cfabd61e836c365ec8ce9ec2438105cfd8cd2f30b4370501084cd254", func := "mezzanine/mezzaninelaw07.BusKnown", spec := "busKnown", inPlace := ["internal/bytealg.Count", "internal/bytealg.IndexByte", "internal/bytealg.Index"], unfollowed := true, recurses := true, named := ["internal/bytealg.MaxLen", "mezzanine/plic.groups", "mezzanine/uart.kept"], apart := false, laid := [("mezzanine/plic.groups", laid_mezzanine_plic_groups), ("mezzanine/uart.kept", laid_mezzanine_uart_kept)] }
def BusKnownSaid : Prop := busKnownRow.holds Tryz.pinned (OpenSpec.ofChange busKnownSpec)

/-- ITS FALSE NEIGHBOUR: 'it returns false'. Refute it at one input. -/
def busKnownWrong : ChangeSpec := { name := "busKnown", fn := fun _ => fun
  | [] => { results := [.lit (.bool false)], args := [] }
  | _ => none }
def BusKnownWrongFalsely : Prop := busKnownRow.holds Tryz.pinned (OpenSpec.ofChange busKnownWrong)

/-- 'mezzaninelaw07.BusPlays': WHATEVER THE INPUT: true; the input reads as it did. -/
def busPlaysSpec : ChangeSpec := { name := "busPlays", fn := fun _ => fun
  | [d1, d2, d3] => { results := [.lit (.bool true)], args := [d1, d2, d3] }
  | _ => none }
def busPlaysRow : OpenClaim := { program := "ytbcnkhfpogglmaagreatdoor", sum := "e98de582cfabd61e836c365ec8ce9ec2438105cfd8cd2f30b4370501084cd254", func := "mezzanine/mezzaninelaw07.BusPlays", spec := "busPlays", inPlace := ["internal/bytealg.Count", "internal/bytealg.IndexByte", "internal/bytealg.Index"], unfollowed := true, recurses := true, named := ["internal/bytealg.MaxLen", "mezzanine/plic.groups", "mezzanine/uart.kept"], apart := false, laid := [("mezzanine/plic.groups", laid_mezzanine_plic_groups), ("mezzanine/uart.kept", laid_mezzanine_uart_kept)] }
def BusPlaysSaid : Prop := busPlaysRow.holds Tryz.pinned (OpenSpec.ofChange busPlaysSpec)

/-- ITS FALSE NEIGHBOUR: 'it returns false'. Refute it at one input. -/
def busPlaysWrong : ChangeSpec := { name := "busPlays", fn := fun _ => fun
  | [d1, d2, d3] => { results := [.lit (.bool false)], args := [d1, d2, d3] }
  | _ => none }
def BusPlaysWrongFalsely : Prop := busPlaysRow.holds Tryz.pinned (OpenSpec.ofChange busPlaysWrong)

/-- 'mezzaninelaw07.BusSame': WHATEVER THE INPUT: true; the input reads as it did. -/
def busSameSpec : ChangeSpec := { name := "busSame", fn := fun _ => fun
  | [d1, d2, d3, d4, d5, d6] => { results := [.lit (.bool true)], args := [d1, d2, d3, d4, d5, d6] }
  | _ => none }
def busSameRow : OpenClaim := { program := "ytbcnkhfpogglmaagreatdoor", sum := "e98de582cfabd61e836c365ec8ce9ec2438105cfd8cd2f30b4370501084cd254", func := "mezzanine/mezzaninelaw07.BusSame", spec := "busSame", inPlace := ["internal/bytealg.Count", "internal/bytealg.IndexByte", "internal/bytealg.Index"], unfollowed := true, recurses := true, named := ["internal/bytealg.MaxLen", "mezzanine/plic.groups", "mezzanine/uart.kept"], apart := false, laid := [("mezzanine/plic.groups", laid_mezzanine_plic_groups), ("mezzanine/uart.kept", laid_mezzanine_uart_kept)] }
def BusSameSaid : Prop := busSameRow.holds Tryz.pinned (OpenSpec.ofChange busSameSpec)

/-- ITS FALSE NEIGHBOUR: 'it returns false'. Refute it at one input. -/
def busSameWrong : ChangeSpec := { name := "busSame", fn := fun _ => fun
  | [d1, d2, d3, d4, d5, d6] => { results := [.lit (.bool false)], args := [d1, d2, d3, d4, d5, d6] }
  | _ => none }
def BusSameWrongFalsely : Prop := busSameRow.holds Tryz.pinned (OpenSpec.ofChange busSameWrong)

/-- 'mezzaninelaw07.BusApart': WHATEVER THE INPUT: true; the input reads as it did. -/
def busApartSpec : ChangeSpec := { name := "busApart", fn := fun _ => fun
  | [d1, d2, d3, d4] => { results := [.lit (.bool true)], args := [d1, d2, d3, d4] }
  | _ => none }
def busApartRow : OpenClaim := { program := "ytbcnkhfpogglmaagreatdoor", sum := "e98de582cfabd61e836c365ec8ce9ec2438105cfd8cd2f30b4370501084cd254", func := "mezzanine/mezzaninelaw07.BusApart", spec := "busApart", inPlace := ["internal/bytealg.Count", "internal/bytealg.IndexByte", "internal/bytealg.Index"], unfollowed := true, recurses := true, named := ["internal/bytealg.MaxLen", "mezzanine/plic.groups", "mezzanine/uart.kept"], apart := false, laid := [("mezzanine/plic.groups", laid_mezzanine_plic_groups), ("mezzanine/uart.kept", laid_mezzanine_uart_kept)] }
def BusApartSaid : Prop := busApartRow.holds Tryz.pinned (OpenSpec.ofChange busApartSpec)

/-- ITS FALSE NEIGHBOUR: 'it returns false'. Refute it at one input. -/
def busApartWrong : ChangeSpec := { name := "busApart", fn := fun _ => fun
  | [d1, d2, d3, d4] => { results := [.lit (.bool false)], args := [d1, d2, d3, d4] }
  | _ => none }
def BusApartWrongFalsely : Prop := busApartRow.holds Tryz.pinned (OpenSpec.ofChange busApartWrong)

/- THE SECOND FORM. 'bulk': how many values and letters a reading holds, each counted each time it is reached (what is shared counts as often as it is met; a slice's spare places count too). A statement '..UptoSaid' is the law's where the arguments, and the package variables that the reading takes, are together of bulk at most 1048576: NARROWER than '..Said'. Prove '..Said' where nothing that the law and all that it calls make is longer than what came in: it says more and counts as full. Else prove '..UptoSaid'. A law counts once. -/
mutual
def uptoBulk {H : Type} : DataW H → Nat
  | .lit (.string bytes) => bytes.length + 1
  | .lit _ => 1
  | .nil => 1
  | .ptr d => uptoBulk d + 1
  | .slice elems spare => uptoBulkAll elems + uptoBulkAll spare + 1
  | .agg parts => uptoBulkAll parts + 1
  | .iface _ d => uptoBulk d + 1
  | .map entries => uptoBulkEntries entries + 1
  | .held _ => 1
def uptoBulkAll {H : Type} : List (DataW H) → Nat
  | [] => 0
  | d :: r => uptoBulk d + uptoBulkAll r
def uptoBulkEntries {H : Type} : List (Lit × DataW H) → Nat
  | [] => 0
  | x :: r => uptoBulkEntry x + uptoBulkEntries r
def uptoBulkEntry {H : Type} : Lit × DataW H → Nat
  | (.string bytes, d) => bytes.length + uptoBulk d + 1
  | (_, d) => uptoBulk d + 1
 end
def uptoSmall : (H : Type) → List (DataW H) → Bool := fun _ ds => decide (uptoBulkAll ds ≤ 1048576)
def OpenSpec.upto (s : _root_.Go.ChangeSpec) : _root_.Go.OpenSpec := { _root_.Go.OpenSpec.ofChange s with cond := some uptoSmall }

/-- 'mezzaninelaw07.BusKnown', WHERE WHAT IT READS IS OF BULK AT MOST 1048576: true; the input reads as it did. -/
def busKnownUptoRow : OpenClaim := { program := "ytbcnkhfpogglmaagreatdoor", sum := "e98de582cfabd61e836c365ec8ce9ec2438105cfd8cd2f30b4370501084cd254", func := "mezzanine/mezzaninelaw07.BusKnown", spec := "busKnown", inPlace := ["internal/bytealg.Count", "internal/bytealg.IndexByte", "internal/bytealg.Index"], unfollowed := true, recurses := true, named := ["internal/bytealg.MaxLen", "mezzanine/plic.groups", "mezzanine/uart.kept"], apart := false, laid := [("mezzanine/plic.groups", laid_mezzanine_plic_groups), ("mezzanine/uart.kept", laid_mezzanine_uart_kept)], narrowed := true }
def BusKnownUptoSaid : Prop := busKnownUptoRow.holds Tryz.pinned (OpenSpec.upto busKnownSpec)

/-- 'mezzaninelaw07.BusPlays', WHERE WHAT IT READS IS OF BULK AT MOST 1048576: true; the input reads as it did. -/
def busPlaysUptoRow : OpenClaim := { program := "ytbcnkhfpogglmaagreatdoor", sum := "e98de582cfabd61e836c365ec8ce9ec2438105cfd8cd2f30b4370501084cd254", func := "mezzanine/mezzaninelaw07.BusPlays", spec := "busPlays", inPlace := ["internal/bytealg.Count", "internal/bytealg.IndexByte", "internal/bytealg.Index"], unfollowed := true, recurses := true, named := ["internal/bytealg.MaxLen", "mezzanine/plic.groups", "mezzanine/uart.kept"], apart := false, laid := [("mezzanine/plic.groups", laid_mezzanine_plic_groups), ("mezzanine/uart.kept", laid_mezzanine_uart_kept)], narrowed := true }
def BusPlaysUptoSaid : Prop := busPlaysUptoRow.holds Tryz.pinned (OpenSpec.upto busPlaysSpec)

/-- 'mezzaninelaw07.BusSame', WHERE WHAT IT READS IS OF BULK AT MOST 1048576: true; the input reads as it did. -/
def busSameUptoRow : OpenClaim := { program := "ytbcnkhfpogglmaagreatdoor", sum := "e98de582cfabd61e836c365ec8ce9ec2438105cfd8cd2f30b4370501084cd254", func := "mezzanine/mezzaninelaw07.BusSame", spec := "busSame", inPlace := ["internal/bytealg.Count", "internal/bytealg.IndexByte", "internal/bytealg.Index"], unfollowed := true, recurses := true, named := ["internal/bytealg.MaxLen", "mezzanine/plic.groups", "mezzanine/uart.kept"], apart := false, laid := [("mezzanine/plic.groups", laid_mezzanine_plic_groups), ("mezzanine/uart.kept", laid_mezzanine_uart_kept)], narrowed := true }
def BusSameUptoSaid : Prop := busSameUptoRow.holds Tryz.pinned (OpenSpec.upto busSameSpec)

/-- 'mezzaninelaw07.BusApart', WHERE WHAT IT READS IS OF BULK AT MOST 1048576: true; the input reads as it did. -/
def busApartUptoRow : OpenClaim := { program := "ytbcnkhfpogglmaagreatdoor", sum := "e98de582cfabd61e836c365ec8ce9ec2438105cfd8cd2f30b4370501084cd254", func := "mezzanine/mezzaninelaw07.BusApart", spec := "busApart", inPlace := ["internal/bytealg.Count", "internal/bytealg.IndexByte", "internal/bytealg.Index"], unfollowed := true, recurses := true, named := ["internal/bytealg.MaxLen", "mezzanine/plic.groups", "mezzanine/uart.kept"], apart := false, laid := [("mezzanine/plic.groups", laid_mezzanine_plic_groups), ("mezzanine/uart.kept", laid_mezzanine_uart_kept)], narrowed := true }
def BusApartUptoSaid : Prop := busApartUptoRow.holds Tryz.pinned (OpenSpec.upto busApartSpec)

end Rows
end Go.Proofs.YtbcnkhfpogglmaaGreatDoor
