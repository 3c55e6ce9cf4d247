/-
  No cell of these rows narrows 'for every input' (looked for: loops, veiled, ifaces, maps, wideKeys, modest, calm, conditions, laid).
  DERIVED. THE GIVEN ROWS OF THIS SEAT. 8 by the template 'for every input the law returns true; each argument reads behind the call as it read before'; 0 by the template 'total and deterministic' (their statements: YtiblfdgmleckiaaTotals.lean).
  GIVEN WITH THE SEED: the statements are not yours to turn. If you find one false, say at which input.
  Laid BY PROGRAM, IN A SANDBOX (cutbox-rows.mjs): the forced cells as the released guide's own fill.sh prints them over the translation b3f6c5ba7fbab9c9… (all of the seat's roots in one cut). By AI agents, Wed Nov 11 2026. No macro, syntax, notation, axiom, sorry.
-/
import Derived.Test.YtiblfdgmleckiaaChecked
import GoSem.Claim
import GoSem.ClaimJoined
import GoSem.ClaimMapViews
import Derived.JoinedTies
import Derived.KernelRfl
namespace Go.Proofs.Ytiblfdgmleckiaa
/- THE CELL 'sum', in the pinned program and in every row, IS THE sha256 OF THE DUMP (.gsa) THAT YtiblfdgmleckiaaProg.lean LOADS. Nothing in Lean hashes anything: it is a label: what it is worth is what the hold of that sum in a sandbox is worth. -/
noncomputable def Try.pinned : Pinned := { name := "ytiblfdgmleckiaa", sum := "b3f6c5ba7fbab9c9d79c8dc01ef88d795b95d78d7adfd6ad9e9b9e4b8e66a0e0", checked := Try.checked }
namespace Rows
def none {H : Type} : Left H := { results := [], args := [] }

/-- 'mezzaninelaw12.CsrReads': WHATEVER THE INPUT: true; the input reads as it did. -/
def csrReadsSpec : ChangeSpec := { name := "csrReads", fn := fun _ => fun
  | [d1, d2, d3] => { results := [.lit (.bool true)], args := [d1, d2, d3] }
  | _ => none }
def csrReadsRow : OpenClaim := { program := "ytiblfdgmleckiaa", sum := "b3f6c5ba7fbab9c9d79c8dc01ef88d795b95d78d7adfd6ad9e9b9e4b8e66a0e0", func := "mezzanine/mezzaninelaw12.CsrReads", spec := "csrReads", apart := false }
def CsrReadsSaid : Prop := csrReadsRow.holds Try.pinned (OpenSpec.ofChange csrReadsSpec)

/-- ITS FALSE NEIGHBOUR: 'it returns false'. Refute it at one input. -/
def csrReadsWrong : ChangeSpec := { name := "csrReads", fn := fun _ => fun
  | [d1, d2, d3] => { results := [.lit (.bool false)], args := [d1, d2, d3] }
  | _ => none }
def CsrReadsWrongFalsely : Prop := csrReadsRow.holds Try.pinned (OpenSpec.ofChange csrReadsWrong)

/-- 'mezzaninelaw12.CsrWrites': WHATEVER THE INPUT: true; the input reads as it did. -/
def csrWritesSpec : ChangeSpec := { name := "csrWrites", fn := fun _ => fun
  | [d1, d2, d3, d4] => { results := [.lit (.bool true)], args := [d1, d2, d3, d4] }
  | _ => none }
def csrWritesRow : OpenClaim := { program := "ytiblfdgmleckiaa", sum := "b3f6c5ba7fbab9c9d79c8dc01ef88d795b95d78d7adfd6ad9e9b9e4b8e66a0e0", func := "mezzanine/mezzaninelaw12.CsrWrites", spec := "csrWrites", apart := false }
def CsrWritesSaid : Prop := csrWritesRow.holds Try.pinned (OpenSpec.ofChange csrWritesSpec)

/-- ITS FALSE NEIGHBOUR: 'it returns false'. Refute it at one input. -/
def csrWritesWrong : ChangeSpec := { name := "csrWrites", fn := fun _ => fun
  | [d1, d2, d3, d4] => { results := [.lit (.bool false)], args := [d1, d2, d3, d4] }
  | _ => none }
def CsrWritesWrongFalsely : Prop := csrWritesRow.holds Try.pinned (OpenSpec.ofChange csrWritesWrong)

/-- 'mezzaninelaw12.CsrFixes': WHATEVER THE INPUT: true; the input reads as it did. -/
def csrFixesSpec : ChangeSpec := { name := "csrFixes", fn := fun _ => fun
  | [d] => { results := [.lit (.bool true)], args := [d] }
  | _ => none }
def csrFixesRow : OpenClaim := { program := "ytiblfdgmleckiaa", sum := "b3f6c5ba7fbab9c9d79c8dc01ef88d795b95d78d7adfd6ad9e9b9e4b8e66a0e0", func := "mezzanine/mezzaninelaw12.CsrFixes", spec := "csrFixes", apart := false }
def CsrFixesSaid : Prop := csrFixesRow.holds Try.pinned (OpenSpec.ofChange csrFixesSpec)

/-- ITS FALSE NEIGHBOUR: 'it returns false'. Refute it at one input. -/
def csrFixesWrong : ChangeSpec := { name := "csrFixes", fn := fun _ => fun
  | [d] => { results := [.lit (.bool false)], args := [d] }
  | _ => none }
def CsrFixesWrongFalsely : Prop := csrFixesRow.holds Try.pinned (OpenSpec.ofChange csrFixesWrong)

/-- 'mezzaninelaw12.CsrLegals': WHATEVER THE INPUT: true; the input reads as it did. -/
def csrLegalsSpec : ChangeSpec := { name := "csrLegals", fn := fun _ => fun
  | [d1, d2, d3, d4] => { results := [.lit (.bool true)], args := [d1, d2, d3, d4] }
  | _ => none }
def csrLegalsRow : OpenClaim := { program := "ytiblfdgmleckiaa", sum := "b3f6c5ba7fbab9c9d79c8dc01ef88d795b95d78d7adfd6ad9e9b9e4b8e66a0e0", func := "mezzanine/mezzaninelaw12.CsrLegals", spec := "csrLegals", unfollowed := true, recurses := true, apart := false }
def CsrLegalsSaid : Prop := csrLegalsRow.holds Try.pinned (OpenSpec.ofChange csrLegalsSpec)

/-- ITS FALSE NEIGHBOUR: 'it returns false'. Refute it at one input. -/
def csrLegalsWrong : ChangeSpec := { name := "csrLegals", fn := fun _ => fun
  | [d1, d2, d3, d4] => { results := [.lit (.bool false)], args := [d1, d2, d3, d4] }
  | _ => none }
def CsrLegalsWrongFalsely : Prop := csrLegalsRow.holds Try.pinned (OpenSpec.ofChange csrLegalsWrong)

/-- 'mezzaninelaw12.CsrViews': WHATEVER THE INPUT: true; the input reads as it did. -/
def csrViewsSpec : ChangeSpec := { name := "csrViews", fn := fun _ => fun
  | [d1, d2] => { results := [.lit (.bool true)], args := [d1, d2] }
  | _ => none }
def csrViewsRow : OpenClaim := { program := "ytiblfdgmleckiaa", sum := "b3f6c5ba7fbab9c9d79c8dc01ef88d795b95d78d7adfd6ad9e9b9e4b8e66a0e0", func := "mezzanine/mezzaninelaw12.CsrViews", spec := "csrViews", unfollowed := true, recurses := true, apart := false }
def CsrViewsSaid : Prop := csrViewsRow.holds Try.pinned (OpenSpec.ofChange csrViewsSpec)

/-- ITS FALSE NEIGHBOUR: 'it returns false'. Refute it at one input. -/
def csrViewsWrong : ChangeSpec := { name := "csrViews", fn := fun _ => fun
  | [d1, d2] => { results := [.lit (.bool false)], args := [d1, d2] }
  | _ => none }
def CsrViewsWrongFalsely : Prop := csrViewsRow.holds Try.pinned (OpenSpec.ofChange csrViewsWrong)

/-- 'mezzaninelaw12.CsrSame': WHATEVER THE INPUT: true; the input reads as it did. -/
def csrSameSpec : ChangeSpec := { name := "csrSame", fn := fun _ => fun
  | [d1, d2, d3] => { results := [.lit (.bool true)], args := [d1, d2, d3] }
  | _ => none }
def csrSameRow : OpenClaim := { program := "ytiblfdgmleckiaa", sum := "b3f6c5ba7fbab9c9d79c8dc01ef88d795b95d78d7adfd6ad9e9b9e4b8e66a0e0", func := "mezzanine/mezzaninelaw12.CsrSame", spec := "csrSame", apart := false }
def CsrSameSaid : Prop := csrSameRow.holds Try.pinned (OpenSpec.ofChange csrSameSpec)

/-- ITS FALSE NEIGHBOUR: 'it returns false'. Refute it at one input. -/
def csrSameWrong : ChangeSpec := { name := "csrSame", fn := fun _ => fun
  | [d1, d2, d3] => { results := [.lit (.bool false)], args := [d1, d2, d3] }
  | _ => none }
def CsrSameWrongFalsely : Prop := csrSameRow.holds Try.pinned (OpenSpec.ofChange csrSameWrong)

/-- 'mezzaninelaw12.CsrAgain': WHATEVER THE INPUT: true; the input reads as it did. -/
def csrAgainSpec : ChangeSpec := { name := "csrAgain", fn := fun _ => fun
  | [d1, d2, d3, d4, d5] => { results := [.lit (.bool true)], args := [d1, d2, d3, d4, d5] }
  | _ => none }
def csrAgainRow : OpenClaim := { program := "ytiblfdgmleckiaa", sum := "b3f6c5ba7fbab9c9d79c8dc01ef88d795b95d78d7adfd6ad9e9b9e4b8e66a0e0", func := "mezzanine/mezzaninelaw12.CsrAgain", spec := "csrAgain", apart := false }
def CsrAgainSaid : Prop := csrAgainRow.holds Try.pinned (OpenSpec.ofChange csrAgainSpec)

/-- ITS FALSE NEIGHBOUR: 'it returns false'. Refute it at one input. -/
def csrAgainWrong : ChangeSpec := { name := "csrAgain", fn := fun _ => fun
  | [d1, d2, d3, d4, d5] => { results := [.lit (.bool false)], args := [d1, d2, d3, d4, d5] }
  | _ => none }
def CsrAgainWrongFalsely : Prop := csrAgainRow.holds Try.pinned (OpenSpec.ofChange csrAgainWrong)

/-- 'mezzaninelaw12.CsrGuest': WHATEVER THE INPUT: true; the input reads as it did. -/
def csrGuestSpec : ChangeSpec := { name := "csrGuest", fn := fun _ => fun
  | [d1, d2, d3, d4] => { results := [.lit (.bool true)], args := [d1, d2, d3, d4] }
  | _ => none }
def csrGuestRow : OpenClaim := { program := "ytiblfdgmleckiaa", sum := "b3f6c5ba7fbab9c9d79c8dc01ef88d795b95d78d7adfd6ad9e9b9e4b8e66a0e0", func := "mezzanine/mezzaninelaw12.CsrGuest", spec := "csrGuest", apart := false }
def CsrGuestSaid : Prop := csrGuestRow.holds Try.pinned (OpenSpec.ofChange csrGuestSpec)

/-- ITS FALSE NEIGHBOUR: 'it returns false'. Refute it at one input. -/
def csrGuestWrong : ChangeSpec := { name := "csrGuest", fn := fun _ => fun
  | [d1, d2, d3, d4] => { results := [.lit (.bool false)], args := [d1, d2, d3, d4] }
  | _ => none }
def CsrGuestWrongFalsely : Prop := csrGuestRow.holds Try.pinned (OpenSpec.ofChange csrGuestWrong)

/- THE SECOND FORM. 'bulk': how many values and letters a reading holds, each counted each time it is reached (what is shared counts as often as it is met; a slice's spare places count too). A statement '..UptoSaid' is the law's where the arguments, and the package variables that the reading takes, are together of bulk at most 1048576: NARROWER than '..Said'. Prove '..Said' where nothing that the law and all that it calls make is longer than what came in: it says more and counts as full. Else prove '..UptoSaid'. A law counts once. -/
mutual
def uptoBulk {H : Type} : DataW H → Nat
  | .lit (.string bytes) => bytes.length + 1
  | .lit _ => 1
  | .nil => 1
  | .ptr d => uptoBulk d + 1
  | .slice elems spare => uptoBulkAll elems + uptoBulkAll spare + 1
  | .agg parts => uptoBulkAll parts + 1
  | .iface _ d => uptoBulk d + 1
  | .map entries => uptoBulkEntries entries + 1
  | .held _ => 1
def uptoBulkAll {H : Type} : List (DataW H) → Nat
  | [] => 0
  | d :: r => uptoBulk d + uptoBulkAll r
def uptoBulkEntries {H : Type} : List (Lit × DataW H) → Nat
  | [] => 0
  | x :: r => uptoBulkEntry x + uptoBulkEntries r
def uptoBulkEntry {H : Type} : Lit × DataW H → Nat
  | (.string bytes, d) => bytes.length + uptoBulk d + 1
  | (_, d) => uptoBulk d + 1
 end
def uptoSmall : (H : Type) → List (DataW H) → Bool := fun _ ds => decide (uptoBulkAll ds ≤ 1048576)
def OpenSpec.upto (s : _root_.Go.ChangeSpec) : _root_.Go.OpenSpec := { _root_.Go.OpenSpec.ofChange s with cond := some uptoSmall }

/-- 'mezzaninelaw12.CsrReads', WHERE WHAT IT READS IS OF BULK AT MOST 1048576: true; the input reads as it did. -/
def csrReadsUptoRow : OpenClaim := { program := "ytiblfdgmleckiaa", sum := "b3f6c5ba7fbab9c9d79c8dc01ef88d795b95d78d7adfd6ad9e9b9e4b8e66a0e0", func := "mezzanine/mezzaninelaw12.CsrReads", spec := "csrReads", apart := false, narrowed := true }
def CsrReadsUptoSaid : Prop := csrReadsUptoRow.holds Try.pinned (OpenSpec.upto csrReadsSpec)

/-- 'mezzaninelaw12.CsrWrites', WHERE WHAT IT READS IS OF BULK AT MOST 1048576: true; the input reads as it did. -/
def csrWritesUptoRow : OpenClaim := { program := "ytiblfdgmleckiaa", sum := "b3f6c5ba7fbab9c9d79c8dc01ef88d795b95d78d7adfd6ad9e9b9e4b8e66a0e0", func := "mezzanine/mezzaninelaw12.CsrWrites", spec := "csrWrites", apart := false, narrowed := true }
def CsrWritesUptoSaid : Prop := csrWritesUptoRow.holds Try.pinned (OpenSpec.upto csrWritesSpec)

/-- 'mezzaninelaw12.CsrFixes', WHERE WHAT IT READS IS OF BULK AT MOST 1048576: true; the input reads as it did. -/
def csrFixesUptoRow : OpenClaim := { program := "ytiblfdgmleckiaa", sum := "b3f6c5ba7fbab9c9d79c8dc01ef88d795b95d78d7adfd6ad9e9b9e4b8e66a0e0", func := "mezzanine/mezzaninelaw12.CsrFixes", spec := "csrFixes", apart := false, narrowed := true }
def CsrFixesUptoSaid : Prop := csrFixesUptoRow.holds Try.pinned (OpenSpec.upto csrFixesSpec)

/-- 'mezzaninelaw12.CsrLegals', WHERE WHAT IT READS IS OF BULK AT MOST 1048576: true; the input reads as it did. -/
def csrLegalsUptoRow : OpenClaim := { program := "ytiblfdgmleckiaa", sum := "b3f6c5ba7fbab9c9d79c8dc01ef88d795b95d78d7adfd6ad9e9b9e4b8e66a0e0", func := "mezzanine/mezzaninelaw12.CsrLegals", spec := "csrLegals", unfollowed := true, recurses := true, apart := false, narrowed := true }
def CsrLegalsUptoSaid : Prop := csrLegalsUptoRow.holds Try.pinned (OpenSpec.upto csrLegalsSpec)

/-- 'mezzaninelaw12.CsrViews', WHERE WHAT IT READS IS OF BULK AT MOST 1048576: true; the input reads as it did. -/
def csrViewsUptoRow : OpenClaim := { program := "ytiblfdgmleckiaa", sum := "b3f6c5ba7fbab9c9d79c8dc01ef88d795b95d78d7adfd6ad9e9b9e4b8e66a0e0", func := "mezzanine/mezzaninelaw12.CsrViews", spec := "csrViews", unfollowed := true, recurses := true, apart := false, narrowed := true }
def CsrViewsUptoSaid : Prop := csrViewsUptoRow.holds Try.pinned (OpenSpec.upto csrViewsSpec)

/-- 'mezzaninelaw12.CsrSame', WHERE WHAT IT READS IS OF BULK AT MOST 1048576: true; the input reads as it did. -/
def csrSameUptoRow : OpenClaim := { program := "ytiblfdgmleckiaa", sum := "b3f6c5ba7fbab9c9d79c8dc01ef88d795b95d78d7adfd6ad9e9b9e4b8e66a0e0", func := "mezzanine/mezzaninelaw12.CsrSame", spec := "csrSame", apart := false, narrowed := true }
def CsrSameUptoSaid : Prop := csrSameUptoRow.holds Try.pinned (OpenSpec.upto csrSameSpec)

/-- 'mezzaninelaw12.CsrAgain', WHERE WHAT IT READS IS OF BULK AT MOST 1048576: true; the input reads as it did. -/
def csrAgainUptoRow : OpenClaim := { program := "ytiblfdgmleckiaa", sum := "b3f6c5ba7fbab9c9d79c8dc01ef88d795b95d78d7adfd6ad9e9b9e4b8e66a0e0", func := "mezzanine/mezzaninelaw12.CsrAgain", spec := "csrAgain", apart := false, narrowed := true }
def CsrAgainUptoSaid : Prop := csrAgainUptoRow.holds Try.pinned (OpenSpec.upto csrAgainSpec)

/-- 'mezzaninelaw12.CsrGuest', WHERE WHAT IT READS IS OF BULK AT MOST 1048576: true; the input reads as it did. -/
def csrGuestUptoRow : OpenClaim := { program := "ytiblfdgmleckiaa", sum := "b3f6c5ba7fbab9c9d79c8dc01ef88d795b95d78d7adfd6ad9e9b9e4b8e66a0e0", func := "mezzanine/mezzaninelaw12.CsrGuest", spec := "csrGuest", apart := false, narrowed := true }
def CsrGuestUptoSaid : Prop := csrGuestUptoRow.holds Try.pinned (OpenSpec.upto csrGuestSpec)

end Rows
end Go.Proofs.Ytiblfdgmleckiaa
