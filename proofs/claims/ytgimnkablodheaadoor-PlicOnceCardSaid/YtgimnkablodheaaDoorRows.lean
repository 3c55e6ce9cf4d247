/-
  NARROWER THAN 'FOR EVERY INPUT', by the rows' own cells (each row's printed sentence says how): PlicKnown: laid · PlicPlays: laid · PlicSame: laid · PlicOnce: laid · PlicThrough: laid.
  DERIVED. THE GIVEN ROWS OF THIS SEAT. 5 by the template 'for every input the law returns true; each argument reads behind the call as it read before'; 0 by the template 'total and deterministic' (their statements: YtgimnkablodheaaDoorTotals.lean).
  GIVEN WITH THE SEED: the statements are not yours to turn. If you find one false, say at which input.
  Laid BY PROGRAM, IN A SANDBOX (cutbox-rows.mjs): the forced cells as the released guide's own fill.sh prints them over the translation 14b21b560030d250… (all of the seat's roots in one cut). By AI agents, Wed Nov 11 2026. No macro, syntax, notation, axiom, sorry.
-/
import Derived.Test.YtgimnkablodheaaDoorChecked
import GoSem.Claim
import GoSem.ClaimJoined
import GoSem.ClaimMapViews
import Derived.JoinedTies
import Derived.KernelRfl
namespace Go.Proofs.YtgimnkablodheaaDoor
/- THE CELL 'sum', in the pinned program and in every row, IS THE sha256 OF THE DUMP (.gsa) THAT YtgimnkablodheaaDoorProg.lean LOADS. Nothing in Lean hashes anything: it is a label: what it is worth is what the hold of that sum in a sandbox is worth. -/
noncomputable def Tryd.pinned : Pinned := { name := "ytgimnkablodheaadoor", sum := "14b21b560030d2501d9fc1bd80428359d864ecb1b2ff2b425691660a04bc3dcc", checked := Tryd.checked }
namespace Rows
def none {H : Type} : Left H := { results := [], args := [] }

/- WHAT THE LISTED PACKAGE-LEVEL VARIABLES READ AS WHEN THE CALL BEGINS. Each datum BY PROGRAM (the guide's laid-datum.mjs) off the statement by which the dump's own 'gosem.cut.vars' lays the variable. In a bare row this is a premise. The card (YtgimnkablodheaaDoorCards.lean) ties it to the program's text. -/
def laid_mezzanine_plic_groups {H : Type} : DataW H := .agg [.agg [.lit (.int .i64 0), .lit (.int .u64 0), .lit (.int .u64 4), .lit (.int .u64 32)], .agg [.lit (.int .i64 1), .lit (.int .u64 4096), .lit (.int .u64 4), .lit (.int .u64 1)], .agg [.lit (.int .i64 2), .lit (.int .u64 8192), .lit (.int .u64 128), .lit (.int .u64 2)], .agg [.lit (.int .i64 3), .lit (.int .u64 2097152), .lit (.int .u64 4096), .lit (.int .u64 2)], .agg [.lit (.int .i64 4), .lit (.int .u64 2097156), .lit (.int .u64 4096), .lit (.int .u64 2)]]

/-- 'mezzaninelaw05.PlicKnown': WHATEVER THE INPUT: true; the input reads as it did. -/
def plicKnownSpec : ChangeSpec := { name := "plicKnown", fn := fun _ => fun
  | [] => { results := [.lit (.bool true)], args := [] }
  | _ => none }
def plicKnownRow : OpenClaim := { program := "ytgimnkablodheaadoor", sum := "14b21b560030d2501d9fc1bd80428359d864ecb1b2ff2b425691660a04bc3dcc", func := "mezzanine/mezzaninelaw05.PlicKnown", spec := "plicKnown", named := ["mezzanine/plic.groups"], apart := false, laid := [("mezzanine/plic.groups", laid_mezzanine_plic_groups)] }
def PlicKnownSaid : Prop := plicKnownRow.holds Tryd.pinned (OpenSpec.ofChange plicKnownSpec)

/-- ITS FALSE NEIGHBOUR: 'it returns false'. Refute it at one input. -/
def plicKnownWrong : ChangeSpec := { name := "plicKnown", fn := fun _ => fun
  | [] => { results := [.lit (.bool false)], args := [] }
  | _ => none }
def PlicKnownWrongFalsely : Prop := plicKnownRow.holds Tryd.pinned (OpenSpec.ofChange plicKnownWrong)

/-- 'mezzaninelaw05.PlicPlays': WHATEVER THE INPUT: true; the input reads as it did. -/
def plicPlaysSpec : ChangeSpec := { name := "plicPlays", fn := fun _ => fun
  | [d1, d2, d3] => { results := [.lit (.bool true)], args := [d1, d2, d3] }
  | _ => none }
def plicPlaysRow : OpenClaim := { program := "ytgimnkablodheaadoor", sum := "14b21b560030d2501d9fc1bd80428359d864ecb1b2ff2b425691660a04bc3dcc", func := "mezzanine/mezzaninelaw05.PlicPlays", spec := "plicPlays", named := ["mezzanine/plic.groups"], apart := false, laid := [("mezzanine/plic.groups", laid_mezzanine_plic_groups)] }
def PlicPlaysSaid : Prop := plicPlaysRow.holds Tryd.pinned (OpenSpec.ofChange plicPlaysSpec)

/-- ITS FALSE NEIGHBOUR: 'it returns false'. Refute it at one input. -/
def plicPlaysWrong : ChangeSpec := { name := "plicPlays", fn := fun _ => fun
  | [d1, d2, d3] => { results := [.lit (.bool false)], args := [d1, d2, d3] }
  | _ => none }
def PlicPlaysWrongFalsely : Prop := plicPlaysRow.holds Tryd.pinned (OpenSpec.ofChange plicPlaysWrong)

/-- 'mezzaninelaw05.PlicSame': WHATEVER THE INPUT: true; the input reads as it did. -/
def plicSameSpec : ChangeSpec := { name := "plicSame", fn := fun _ => fun
  | [d1, d2] => { results := [.lit (.bool true)], args := [d1, d2] }
  | _ => none }
def plicSameRow : OpenClaim := { program := "ytgimnkablodheaadoor", sum := "14b21b560030d2501d9fc1bd80428359d864ecb1b2ff2b425691660a04bc3dcc", func := "mezzanine/mezzaninelaw05.PlicSame", spec := "plicSame", named := ["mezzanine/plic.groups"], apart := false, laid := [("mezzanine/plic.groups", laid_mezzanine_plic_groups)] }
def PlicSameSaid : Prop := plicSameRow.holds Tryd.pinned (OpenSpec.ofChange plicSameSpec)

/-- ITS FALSE NEIGHBOUR: 'it returns false'. Refute it at one input. -/
def plicSameWrong : ChangeSpec := { name := "plicSame", fn := fun _ => fun
  | [d1, d2] => { results := [.lit (.bool false)], args := [d1, d2] }
  | _ => none }
def PlicSameWrongFalsely : Prop := plicSameRow.holds Tryd.pinned (OpenSpec.ofChange plicSameWrong)

/-- 'mezzaninelaw05.PlicOnce': WHATEVER THE INPUT: true; the input reads as it did. -/
def plicOnceSpec : ChangeSpec := { name := "plicOnce", fn := fun _ => fun
  | [d] => { results := [.lit (.bool true)], args := [d] }
  | _ => none }
def plicOnceRow : OpenClaim := { program := "ytgimnkablodheaadoor", sum := "14b21b560030d2501d9fc1bd80428359d864ecb1b2ff2b425691660a04bc3dcc", func := "mezzanine/mezzaninelaw05.PlicOnce", spec := "plicOnce", named := ["mezzanine/plic.groups"], apart := false, laid := [("mezzanine/plic.groups", laid_mezzanine_plic_groups)] }
def PlicOnceSaid : Prop := plicOnceRow.holds Tryd.pinned (OpenSpec.ofChange plicOnceSpec)

/-- ITS FALSE NEIGHBOUR: 'it returns false'. Refute it at one input. -/
def plicOnceWrong : ChangeSpec := { name := "plicOnce", fn := fun _ => fun
  | [d] => { results := [.lit (.bool false)], args := [d] }
  | _ => none }
def PlicOnceWrongFalsely : Prop := plicOnceRow.holds Tryd.pinned (OpenSpec.ofChange plicOnceWrong)

/-- 'mezzaninelaw05.PlicThrough': WHATEVER THE INPUT: true; the input reads as it did. -/
def plicThroughSpec : ChangeSpec := { name := "plicThrough", fn := fun _ => fun
  | [d1, d2, d3, d4, d5] => { results := [.lit (.bool true)], args := [d1, d2, d3, d4, d5] }
  | _ => none }
def plicThroughRow : OpenClaim := { program := "ytgimnkablodheaadoor", sum := "14b21b560030d2501d9fc1bd80428359d864ecb1b2ff2b425691660a04bc3dcc", func := "mezzanine/mezzaninelaw05.PlicThrough", spec := "plicThrough", named := ["mezzanine/plic.groups"], apart := false, laid := [("mezzanine/plic.groups", laid_mezzanine_plic_groups)] }
def PlicThroughSaid : Prop := plicThroughRow.holds Tryd.pinned (OpenSpec.ofChange plicThroughSpec)

/-- ITS FALSE NEIGHBOUR: 'it returns false'. Refute it at one input. -/
def plicThroughWrong : ChangeSpec := { name := "plicThrough", fn := fun _ => fun
  | [d1, d2, d3, d4, d5] => { results := [.lit (.bool false)], args := [d1, d2, d3, d4, d5] }
  | _ => none }
def PlicThroughWrongFalsely : Prop := plicThroughRow.holds Tryd.pinned (OpenSpec.ofChange plicThroughWrong)

/- THE SECOND FORM. 'bulk': how many values and letters a reading holds, each counted each time it is reached (what is shared counts as often as it is met; a slice's spare places count too). A statement '..UptoSaid' is the law's where the arguments, and the package variables that the reading takes, are together of bulk at most 1048576: NARROWER than '..Said'. Prove '..Said' where nothing that the law and all that it calls make is longer than what came in: it says more and counts as full. Else prove '..UptoSaid'. A law counts once. -/
mutual
def uptoBulk {H : Type} : DataW H → Nat
  | .lit (.string bytes) => bytes.length + 1
  | .lit _ => 1
  | .nil => 1
  | .ptr d => uptoBulk d + 1
  | .slice elems spare => uptoBulkAll elems + uptoBulkAll spare + 1
  | .agg parts => uptoBulkAll parts + 1
  | .iface _ d => uptoBulk d + 1
  | .map entries => uptoBulkEntries entries + 1
  | .held _ => 1
def uptoBulkAll {H : Type} : List (DataW H) → Nat
  | [] => 0
  | d :: r => uptoBulk d + uptoBulkAll r
def uptoBulkEntries {H : Type} : List (Lit × DataW H) → Nat
  | [] => 0
  | x :: r => uptoBulkEntry x + uptoBulkEntries r
def uptoBulkEntry {H : Type} : Lit × DataW H → Nat
  | (.string bytes, d) => bytes.length + uptoBulk d + 1
  | (_, d) => uptoBulk d + 1
 end
def uptoSmall : (H : Type) → List (DataW H) → Bool := fun _ ds => decide (uptoBulkAll ds ≤ 1048576)
def OpenSpec.upto (s : _root_.Go.ChangeSpec) : _root_.Go.OpenSpec := { _root_.Go.OpenSpec.ofChange s with cond := some uptoSmall }

/-- 'mezzaninelaw05.PlicKnown', WHERE WHAT IT READS IS OF BULK AT MOST 1048576: true; the input reads as it did. -/
def plicKnownUptoRow : OpenClaim := { program := "ytgimnkablodheaadoor", sum := "14b21b560030d2501d9fc1bd80428359d864ecb1b2ff2b425691660a04bc3dcc", func := "mezzanine/mezzaninelaw05.PlicKnown", spec := "plicKnown", named := ["mezzanine/plic.groups"], apart := false, laid := [("mezzanine/plic.groups", laid_mezzanine_plic_groups)], narrowed := true }
def PlicKnownUptoSaid : Prop := plicKnownUptoRow.holds Tryd.pinned (OpenSpec.upto plicKnownSpec)

/-- 'mezzaninelaw05.PlicPlays', WHERE WHAT IT READS IS OF BULK AT MOST 1048576: true; the input reads as it did. -/
def plicPlaysUptoRow : OpenClaim := { program := "ytgimnkablodheaadoor", sum := "14b21b560030d2501d9fc1bd80428359d864ecb1b2ff2b425691660a04bc3dcc", func := "mezzanine/mezzaninelaw05.PlicPlays", spec := "plicPlays", named := ["mezzanine/plic.groups"], apart := false, laid := [("mezzanine/plic.groups", laid_mezzanine_plic_groups)], narrowed := true }
def PlicPlaysUptoSaid : Prop := plicPlaysUptoRow.holds Tryd.pinned (OpenSpec.upto plicPlaysSpec)

/-- 'mezzaninelaw05.PlicSame', WHERE WHAT IT READS IS OF BULK AT MOST 1048576: true; the input reads as it did. -/
def plicSameUptoRow : OpenClaim := { program := "ytgimnkablodheaadoor", sum := "14b21b560030d2501d9fc1bd80428359d864ecb1b2ff2b425691660a04bc3dcc", func := "mezzanine/mezzaninelaw05.PlicSame", spec := "plicSame", named := ["mezzanine/plic.groups"], apart := false, laid := [("mezzanine/plic.groups", laid_mezzanine_plic_groups)], narrowed := true }
def PlicSameUptoSaid : Prop := plicSameUptoRow.holds Tryd.pinned (OpenSpec.upto plicSameSpec)

/-- 'mezzaninelaw05.PlicOnce', WHERE WHAT IT READS IS OF BULK AT MOST 1048576: true; the input reads as it did. -/
def plicOnceUptoRow : OpenClaim := { program := "ytgimnkablodheaadoor", sum := "14b21b560030d2501d9fc1bd80428359d864ecb1b2ff2b425691660a04bc3dcc", func := "mezzanine/mezzaninelaw05.PlicOnce", spec := "plicOnce", named := ["mezzanine/plic.groups"], apart := false, laid := [("mezzanine/plic.groups", laid_mezzanine_plic_groups)], narrowed := true }
def PlicOnceUptoSaid : Prop := plicOnceUptoRow.holds Tryd.pinned (OpenSpec.upto plicOnceSpec)

/-- 'mezzaninelaw05.PlicThrough', WHERE WHAT IT READS IS OF BULK AT MOST 1048576: true; the input reads as it did. -/
def plicThroughUptoRow : OpenClaim := { program := "ytgimnkablodheaadoor", sum := "14b21b560030d2501d9fc1bd80428359d864ecb1b2ff2b425691660a04bc3dcc", func := "mezzanine/mezzaninelaw05.PlicThrough", spec := "plicThrough", named := ["mezzanine/plic.groups"], apart := false, laid := [("mezzanine/plic.groups", laid_mezzanine_plic_groups)], narrowed := true }
def PlicThroughUptoSaid : Prop := plicThroughUptoRow.holds Tryd.pinned (OpenSpec.upto plicThroughSpec)

end Rows
end Go.Proofs.YtgimnkablodheaaDoor
