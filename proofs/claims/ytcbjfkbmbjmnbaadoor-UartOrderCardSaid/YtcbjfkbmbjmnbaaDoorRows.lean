/-
  NARROWER THAN 'FOR EVERY INPUT', by the rows' own cells (each row's printed sentence says how): UartKnown: laid · UartPlays: laid · UartSame: laid · UartFull: laid · UartOrder: laid · UartStill: laid.
  DERIVED. THE GIVEN ROWS OF THIS SEAT. 6 by the template 'for every input the law returns true; each argument reads behind the call as it read before'; 0 by the template 'total and deterministic' (their statements: YtcbjfkbmbjmnbaaDoorTotals.lean).
  GIVEN WITH THE SEED: the statements are not yours to turn. If you find one false, say at which input.
  Laid BY PROGRAM, IN A SANDBOX (cutbox-rows.mjs): the forced cells as the released guide's own fill.sh prints them over the translation 40faa629f8213aa9… (all of the seat's roots in one cut). By AI agents, Wed Nov 11 2026. No macro, syntax, notation, axiom, sorry.
-/
import Derived.Test.YtcbjfkbmbjmnbaaDoorChecked
import GoSem.Claim
import GoSem.ClaimJoined
import GoSem.ClaimMapViews
import Derived.JoinedTies
import Derived.KernelRfl
namespace Go.Proofs.YtcbjfkbmbjmnbaaDoor
/- THE CELL 'sum', in the pinned program and in every row, IS THE sha256 OF THE DUMP (.gsa) THAT YtcbjfkbmbjmnbaaDoorProg.lean LOADS. Nothing in Lean hashes anything: it is a label: what it is worth is what the hold of that sum in a sandbox is worth. -/
noncomputable def Tryd.pinned : Pinned := { name := "ytcbjfkbmbjmnbaadoor", sum := "40faa629f8213aa986d1725ee4ecef5a74e759c2f2dd68e91fd95e361f4a9577", checked := Tryd.checked }
namespace Rows
def none {H : Type} : Left H := { results := [], args := [] }

/- WHAT THE LISTED PACKAGE-LEVEL VARIABLES READ AS WHEN THE CALL BEGINS. Each datum BY PROGRAM (the guide's laid-datum.mjs) off the statement by which the dump's own 'gosem.cut.vars' lays the variable. In a bare row this is a premise. The card (YtcbjfkbmbjmnbaaDoorCards.lean) ties it to the program's text. -/
def laid_mezzanine_uart_kept {H : Type} : DataW H := .agg [.lit (.int .u8 0), .lit (.int .u8 15), .lit (.int .u8 1), .lit (.int .u8 255), .lit (.int .u8 31), .lit (.int .u8 0), .lit (.int .u8 0), .lit (.int .u8 255), .lit (.int .u8 255), .lit (.int .u8 255)]

/-- 'mezzaninelaw06.UartKnown': WHATEVER THE INPUT: true; the input reads as it did. -/
def uartKnownSpec : ChangeSpec := { name := "uartKnown", fn := fun _ => fun
  | [] => { results := [.lit (.bool true)], args := [] }
  | _ => none }
def uartKnownRow : OpenClaim := { program := "ytcbjfkbmbjmnbaadoor", sum := "40faa629f8213aa986d1725ee4ecef5a74e759c2f2dd68e91fd95e361f4a9577", func := "mezzanine/mezzaninelaw06.UartKnown", spec := "uartKnown", named := ["mezzanine/uart.kept"], apart := false, laid := [("mezzanine/uart.kept", laid_mezzanine_uart_kept)] }
def UartKnownSaid : Prop := uartKnownRow.holds Tryd.pinned (OpenSpec.ofChange uartKnownSpec)

/-- ITS FALSE NEIGHBOUR: 'it returns false'. Refute it at one input. -/
def uartKnownWrong : ChangeSpec := { name := "uartKnown", fn := fun _ => fun
  | [] => { results := [.lit (.bool false)], args := [] }
  | _ => none }
def UartKnownWrongFalsely : Prop := uartKnownRow.holds Tryd.pinned (OpenSpec.ofChange uartKnownWrong)

/-- 'mezzaninelaw06.UartPlays': WHATEVER THE INPUT: true; the input reads as it did. -/
def uartPlaysSpec : ChangeSpec := { name := "uartPlays", fn := fun _ => fun
  | [d] => { results := [.lit (.bool true)], args := [d] }
  | _ => none }
def uartPlaysRow : OpenClaim := { program := "ytcbjfkbmbjmnbaadoor", sum := "40faa629f8213aa986d1725ee4ecef5a74e759c2f2dd68e91fd95e361f4a9577", func := "mezzanine/mezzaninelaw06.UartPlays", spec := "uartPlays", named := ["mezzanine/uart.kept"], apart := false, laid := [("mezzanine/uart.kept", laid_mezzanine_uart_kept)] }
def UartPlaysSaid : Prop := uartPlaysRow.holds Tryd.pinned (OpenSpec.ofChange uartPlaysSpec)

/-- ITS FALSE NEIGHBOUR: 'it returns false'. Refute it at one input. -/
def uartPlaysWrong : ChangeSpec := { name := "uartPlays", fn := fun _ => fun
  | [d] => { results := [.lit (.bool false)], args := [d] }
  | _ => none }
def UartPlaysWrongFalsely : Prop := uartPlaysRow.holds Tryd.pinned (OpenSpec.ofChange uartPlaysWrong)

/-- 'mezzaninelaw06.UartSame': WHATEVER THE INPUT: true; the input reads as it did. -/
def uartSameSpec : ChangeSpec := { name := "uartSame", fn := fun _ => fun
  | [d1, d2] => { results := [.lit (.bool true)], args := [d1, d2] }
  | _ => none }
def uartSameRow : OpenClaim := { program := "ytcbjfkbmbjmnbaadoor", sum := "40faa629f8213aa986d1725ee4ecef5a74e759c2f2dd68e91fd95e361f4a9577", func := "mezzanine/mezzaninelaw06.UartSame", spec := "uartSame", named := ["mezzanine/uart.kept"], apart := false, laid := [("mezzanine/uart.kept", laid_mezzanine_uart_kept)] }
def UartSameSaid : Prop := uartSameRow.holds Tryd.pinned (OpenSpec.ofChange uartSameSpec)

/-- ITS FALSE NEIGHBOUR: 'it returns false'. Refute it at one input. -/
def uartSameWrong : ChangeSpec := { name := "uartSame", fn := fun _ => fun
  | [d1, d2] => { results := [.lit (.bool false)], args := [d1, d2] }
  | _ => none }
def UartSameWrongFalsely : Prop := uartSameRow.holds Tryd.pinned (OpenSpec.ofChange uartSameWrong)

/-- 'mezzaninelaw06.UartFull': WHATEVER THE INPUT: true; the input reads as it did. -/
def uartFullSpec : ChangeSpec := { name := "uartFull", fn := fun _ => fun
  | [d1, d2] => { results := [.lit (.bool true)], args := [d1, d2] }
  | _ => none }
def uartFullRow : OpenClaim := { program := "ytcbjfkbmbjmnbaadoor", sum := "40faa629f8213aa986d1725ee4ecef5a74e759c2f2dd68e91fd95e361f4a9577", func := "mezzanine/mezzaninelaw06.UartFull", spec := "uartFull", named := ["mezzanine/uart.kept"], apart := false, laid := [("mezzanine/uart.kept", laid_mezzanine_uart_kept)] }
def UartFullSaid : Prop := uartFullRow.holds Tryd.pinned (OpenSpec.ofChange uartFullSpec)

/-- ITS FALSE NEIGHBOUR: 'it returns false'. Refute it at one input. -/
def uartFullWrong : ChangeSpec := { name := "uartFull", fn := fun _ => fun
  | [d1, d2] => { results := [.lit (.bool false)], args := [d1, d2] }
  | _ => none }
def UartFullWrongFalsely : Prop := uartFullRow.holds Tryd.pinned (OpenSpec.ofChange uartFullWrong)

/-- 'mezzaninelaw06.UartOrder': WHATEVER THE INPUT: true; the input reads as it did. -/
def uartOrderSpec : ChangeSpec := { name := "uartOrder", fn := fun _ => fun
  | [d] => { results := [.lit (.bool true)], args := [d] }
  | _ => none }
def uartOrderRow : OpenClaim := { program := "ytcbjfkbmbjmnbaadoor", sum := "40faa629f8213aa986d1725ee4ecef5a74e759c2f2dd68e91fd95e361f4a9577", func := "mezzanine/mezzaninelaw06.UartOrder", spec := "uartOrder", named := ["mezzanine/uart.kept"], apart := false, laid := [("mezzanine/uart.kept", laid_mezzanine_uart_kept)] }
def UartOrderSaid : Prop := uartOrderRow.holds Tryd.pinned (OpenSpec.ofChange uartOrderSpec)

/-- ITS FALSE NEIGHBOUR: 'it returns false'. Refute it at one input. -/
def uartOrderWrong : ChangeSpec := { name := "uartOrder", fn := fun _ => fun
  | [d] => { results := [.lit (.bool false)], args := [d] }
  | _ => none }
def UartOrderWrongFalsely : Prop := uartOrderRow.holds Tryd.pinned (OpenSpec.ofChange uartOrderWrong)

/-- 'mezzaninelaw06.UartStill': WHATEVER THE INPUT: true; the input reads as it did. -/
def uartStillSpec : ChangeSpec := { name := "uartStill", fn := fun _ => fun
  | [d1, d2] => { results := [.lit (.bool true)], args := [d1, d2] }
  | _ => none }
def uartStillRow : OpenClaim := { program := "ytcbjfkbmbjmnbaadoor", sum := "40faa629f8213aa986d1725ee4ecef5a74e759c2f2dd68e91fd95e361f4a9577", func := "mezzanine/mezzaninelaw06.UartStill", spec := "uartStill", named := ["mezzanine/uart.kept"], apart := false, laid := [("mezzanine/uart.kept", laid_mezzanine_uart_kept)] }
def UartStillSaid : Prop := uartStillRow.holds Tryd.pinned (OpenSpec.ofChange uartStillSpec)

/-- ITS FALSE NEIGHBOUR: 'it returns false'. Refute it at one input. -/
def uartStillWrong : ChangeSpec := { name := "uartStill", fn := fun _ => fun
  | [d1, d2] => { results := [.lit (.bool false)], args := [d1, d2] }
  | _ => none }
def UartStillWrongFalsely : Prop := uartStillRow.holds Tryd.pinned (OpenSpec.ofChange uartStillWrong)

/- THE SECOND FORM. 'bulk': how many values and letters a reading holds, each counted each time it is reached (what is shared counts as often as it is met; a slice's spare places count too). A statement '..UptoSaid' is the law's where the arguments, and the package variables that the reading takes, are together of bulk at most 1048576: NARROWER than '..Said'. Prove '..Said' where nothing that the law and all that it calls make is longer than what came in: it says more and counts as full. Else prove '..UptoSaid'. A law counts once. -/
mutual
def uptoBulk {H : Type} : DataW H → Nat
  | .lit (.string bytes) => bytes.length + 1
  | .lit _ => 1
  | .nil => 1
  | .ptr d => uptoBulk d + 1
  | .slice elems spare => uptoBulkAll elems + uptoBulkAll spare + 1
  | .agg parts => uptoBulkAll parts + 1
  | .iface _ d => uptoBulk d + 1
  | .map entries => uptoBulkEntries entries + 1
  | .held _ => 1
def uptoBulkAll {H : Type} : List (DataW H) → Nat
  | [] => 0
  | d :: r => uptoBulk d + uptoBulkAll r
def uptoBulkEntries {H : Type} : List (Lit × DataW H) → Nat
  | [] => 0
  | x :: r => uptoBulkEntry x + uptoBulkEntries r
def uptoBulkEntry {H : Type} : Lit × DataW H → Nat
  | (.string bytes, d) => bytes.length + uptoBulk d + 1
  | (_, d) => uptoBulk d + 1
 end
def uptoSmall : (H : Type) → List (DataW H) → Bool := fun _ ds => decide (uptoBulkAll ds ≤ 1048576)
def OpenSpec.upto (s : _root_.Go.ChangeSpec) : _root_.Go.OpenSpec := { _root_.Go.OpenSpec.ofChange s with cond := some uptoSmall }

/-- 'mezzaninelaw06.UartKnown', WHERE WHAT IT READS IS OF BULK AT MOST 1048576: true; the input reads as it did. -/
def uartKnownUptoRow : OpenClaim := { program := "ytcbjfkbmbjmnbaadoor", sum := "40faa629f8213aa986d1725ee4ecef5a74e759c2f2dd68e91fd95e361f4a9577", func := "mezzanine/mezzaninelaw06.UartKnown", spec := "uartKnown", named := ["mezzanine/uart.kept"], apart := false, laid := [("mezzanine/uart.kept", laid_mezzanine_uart_kept)], narrowed := true }
def UartKnownUptoSaid : Prop := uartKnownUptoRow.holds Tryd.pinned (OpenSpec.upto uartKnownSpec)

/-- 'mezzaninelaw06.UartPlays', WHERE WHAT IT READS IS OF BULK AT MOST 1048576: true; the input reads as it did. -/
def uartPlaysUptoRow : OpenClaim := { program := "ytcbjfkbmbjmnbaadoor", sum := "40faa629f8213aa986d1725ee4ecef5a74e759c2f2dd68e91fd95e361f4a9577", func := "mezzanine/mezzaninelaw06.UartPlays", spec := "uartPlays", named := ["mezzanine/uart.kept"], apart := false, laid := [("mezzanine/uart.kept", laid_mezzanine_uart_kept)], narrowed := true }
def UartPlaysUptoSaid : Prop := uartPlaysUptoRow.holds Tryd.pinned (OpenSpec.upto uartPlaysSpec)

/-- 'mezzaninelaw06.UartSame', WHERE WHAT IT READS IS OF BULK AT MOST 1048576: true; the input reads as it did. -/
def uartSameUptoRow : OpenClaim := { program := "ytcbjfkbmbjmnbaadoor", sum := "40faa629f8213aa986d1725ee4ecef5a74e759c2f2dd68e91fd95e361f4a9577", func := "mezzanine/mezzaninelaw06.UartSame", spec := "uartSame", named := ["mezzanine/uart.kept"], apart := false, laid := [("mezzanine/uart.kept", laid_mezzanine_uart_kept)], narrowed := true }
def UartSameUptoSaid : Prop := uartSameUptoRow.holds Tryd.pinned (OpenSpec.upto uartSameSpec)

/-- 'mezzaninelaw06.UartFull', WHERE WHAT IT READS IS OF BULK AT MOST 1048576: true; the input reads as it did. -/
def uartFullUptoRow : OpenClaim := { program := "ytcbjfkbmbjmnbaadoor", sum := "40faa629f8213aa986d1725ee4ecef5a74e759c2f2dd68e91fd95e361f4a9577", func := "mezzanine/mezzaninelaw06.UartFull", spec := "uartFull", named := ["mezzanine/uart.kept"], apart := false, laid := [("mezzanine/uart.kept", laid_mezzanine_uart_kept)], narrowed := true }
def UartFullUptoSaid : Prop := uartFullUptoRow.holds Tryd.pinned (OpenSpec.upto uartFullSpec)

/-- 'mezzaninelaw06.UartOrder', WHERE WHAT IT READS IS OF BULK AT MOST 1048576: true; the input reads as it did. -/
def uartOrderUptoRow : OpenClaim := { program := "ytcbjfkbmbjmnbaadoor", sum := "40faa629f8213aa986d1725ee4ecef5a74e759c2f2dd68e91fd95e361f4a9577", func := "mezzanine/mezzaninelaw06.UartOrder", spec := "uartOrder", named := ["mezzanine/uart.kept"], apart := false, laid := [("mezzanine/uart.kept", laid_mezzanine_uart_kept)], narrowed := true }
def UartOrderUptoSaid : Prop := uartOrderUptoRow.holds Tryd.pinned (OpenSpec.upto uartOrderSpec)

/-- 'mezzaninelaw06.UartStill', WHERE WHAT IT READS IS OF BULK AT MOST 1048576: true; the input reads as it did. -/
def uartStillUptoRow : OpenClaim := { program := "ytcbjfkbmbjmnbaadoor", sum := "40faa629f8213aa986d1725ee4ecef5a74e759c2f2dd68e91fd95e361f4a9577", func := "mezzanine/mezzaninelaw06.UartStill", spec := "uartStill", named := ["mezzanine/uart.kept"], apart := false, laid := [("mezzanine/uart.kept", laid_mezzanine_uart_kept)], narrowed := true }
def UartStillUptoSaid : Prop := uartStillUptoRow.holds Tryd.pinned (OpenSpec.upto uartStillSpec)

end Rows
end Go.Proofs.YtcbjfkbmbjmnbaaDoor
