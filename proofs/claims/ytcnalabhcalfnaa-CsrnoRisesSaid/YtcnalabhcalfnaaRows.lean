/-
  No cell of these rows narrows 'for every input' (looked for: loops, veiled, ifaces, maps, wideKeys, modest, calm, conditions, laid).
  DERIVED. THE GIVEN ROWS OF THIS SEAT. 6 by the template 'for every input the law returns true; each argument reads behind the call as it read before'; 0 by the template 'total and deterministic' (their statements: YtcnalabhcalfnaaTotals.lean).
  GIVEN WITH THE SEED: the statements are not yours to turn. If you find one false, say at which input.
  Laid BY PROGRAM, IN A SANDBOX (cutbox-rows.mjs): the forced cells as the released guide's own fill.sh prints them over the translation 867e4c15f1b16cd0… (all of the seat's roots in one cut). By AI agents, Wed Nov 11 2026. No macro, syntax, notation, axiom, sorry.
-/
import Derived.Test.YtcnalabhcalfnaaChecked
import GoSem.Claim
import GoSem.ClaimJoined
import GoSem.ClaimMapViews
import Derived.JoinedTies
import Derived.KernelRfl
namespace Go.Proofs.Ytcnalabhcalfnaa
/- THE CELL 'sum', in the pinned program and in every row, IS THE sha256 OF THE DUMP (.gsa) THAT YtcnalabhcalfnaaProg.lean LOADS. Nothing in Lean hashes anything: it is a label: what it is worth is what the hold of that sum in a sandbox is worth. -/
noncomputable def Try.pinned : Pinned := { name := "ytcnalabhcalfnaa", sum := "867e4c15f1b16cd0078541384414334b21f350827a74beb1f27c70ed77ff58fe", checked := Try.checked }
namespace Rows
def none {H : Type} : Left H := { results := [], args := [] }

/-- 'mezzaninelaw11.CsrnoNames': WHATEVER THE INPUT: true; the input reads as it did. -/
def csrnoNamesSpec : ChangeSpec := { name := "csrnoNames", fn := fun _ => fun
  | [d1, d2] => { results := [.lit (.bool true)], args := [d1, d2] }
  | _ => none }
def csrnoNamesRow : OpenClaim := { program := "ytcnalabhcalfnaa", sum := "867e4c15f1b16cd0078541384414334b21f350827a74beb1f27c70ed77ff58fe", func := "mezzanine/mezzaninelaw11.CsrnoNames", spec := "csrnoNames", unfollowed := true, recurses := true, apart := false }
def CsrnoNamesSaid : Prop := csrnoNamesRow.holds Try.pinned (OpenSpec.ofChange csrnoNamesSpec)

/-- ITS FALSE NEIGHBOUR: 'it returns false'. Refute it at one input. -/
def csrnoNamesWrong : ChangeSpec := { name := "csrnoNames", fn := fun _ => fun
  | [d1, d2] => { results := [.lit (.bool false)], args := [d1, d2] }
  | _ => none }
def CsrnoNamesWrongFalsely : Prop := csrnoNamesRow.holds Try.pinned (OpenSpec.ofChange csrnoNamesWrong)

/-- 'mezzaninelaw11.CsrnoAlls': WHATEVER THE INPUT: true; the input reads as it did. -/
def csrnoAllsSpec : ChangeSpec := { name := "csrnoAlls", fn := fun _ => fun
  | [] => { results := [.lit (.bool true)], args := [] }
  | _ => none }
def csrnoAllsRow : OpenClaim := { program := "ytcnalabhcalfnaa", sum := "867e4c15f1b16cd0078541384414334b21f350827a74beb1f27c70ed77ff58fe", func := "mezzanine/mezzaninelaw11.CsrnoAlls", spec := "csrnoAlls", unfollowed := true, recurses := true, apart := false }
def CsrnoAllsSaid : Prop := csrnoAllsRow.holds Try.pinned (OpenSpec.ofChange csrnoAllsSpec)

/-- ITS FALSE NEIGHBOUR: 'it returns false'. Refute it at one input. -/
def csrnoAllsWrong : ChangeSpec := { name := "csrnoAlls", fn := fun _ => fun
  | [] => { results := [.lit (.bool false)], args := [] }
  | _ => none }
def CsrnoAllsWrongFalsely : Prop := csrnoAllsRow.holds Try.pinned (OpenSpec.ofChange csrnoAllsWrong)

/-- 'mezzaninelaw11.CsrnoChecks': WHATEVER THE INPUT: true; the input reads as it did. -/
def csrnoChecksSpec : ChangeSpec := { name := "csrnoChecks", fn := fun _ => fun
  | [d1, d2, d3] => { results := [.lit (.bool true)], args := [d1, d2, d3] }
  | _ => none }
def csrnoChecksRow : OpenClaim := { program := "ytcnalabhcalfnaa", sum := "867e4c15f1b16cd0078541384414334b21f350827a74beb1f27c70ed77ff58fe", func := "mezzanine/mezzaninelaw11.CsrnoChecks", spec := "csrnoChecks", unfollowed := true, recurses := true, apart := false }
def CsrnoChecksSaid : Prop := csrnoChecksRow.holds Try.pinned (OpenSpec.ofChange csrnoChecksSpec)

/-- ITS FALSE NEIGHBOUR: 'it returns false'. Refute it at one input. -/
def csrnoChecksWrong : ChangeSpec := { name := "csrnoChecks", fn := fun _ => fun
  | [d1, d2, d3] => { results := [.lit (.bool false)], args := [d1, d2, d3] }
  | _ => none }
def CsrnoChecksWrongFalsely : Prop := csrnoChecksRow.holds Try.pinned (OpenSpec.ofChange csrnoChecksWrong)

/-- 'mezzaninelaw11.CsrnoRises': WHATEVER THE INPUT: true; the input reads as it did. -/
def csrnoRisesSpec : ChangeSpec := { name := "csrnoRises", fn := fun _ => fun
  | [d1, d2, d3] => { results := [.lit (.bool true)], args := [d1, d2, d3] }
  | _ => none }
def csrnoRisesRow : OpenClaim := { program := "ytcnalabhcalfnaa", sum := "867e4c15f1b16cd0078541384414334b21f350827a74beb1f27c70ed77ff58fe", func := "mezzanine/mezzaninelaw11.CsrnoRises", spec := "csrnoRises", unfollowed := true, recurses := true, apart := false }
def CsrnoRisesSaid : Prop := csrnoRisesRow.holds Try.pinned (OpenSpec.ofChange csrnoRisesSpec)

/-- ITS FALSE NEIGHBOUR: 'it returns false'. Refute it at one input. -/
def csrnoRisesWrong : ChangeSpec := { name := "csrnoRises", fn := fun _ => fun
  | [d1, d2, d3] => { results := [.lit (.bool false)], args := [d1, d2, d3] }
  | _ => none }
def CsrnoRisesWrongFalsely : Prop := csrnoRisesRow.holds Try.pinned (OpenSpec.ofChange csrnoRisesWrong)

/-- 'mezzaninelaw11.CsrnoGuest': WHATEVER THE INPUT: true; the input reads as it did. -/
def csrnoGuestSpec : ChangeSpec := { name := "csrnoGuest", fn := fun _ => fun
  | [d1, d2, d3] => { results := [.lit (.bool true)], args := [d1, d2, d3] }
  | _ => none }
def csrnoGuestRow : OpenClaim := { program := "ytcnalabhcalfnaa", sum := "867e4c15f1b16cd0078541384414334b21f350827a74beb1f27c70ed77ff58fe", func := "mezzanine/mezzaninelaw11.CsrnoGuest", spec := "csrnoGuest", unfollowed := true, recurses := true, apart := false }
def CsrnoGuestSaid : Prop := csrnoGuestRow.holds Try.pinned (OpenSpec.ofChange csrnoGuestSpec)

/-- ITS FALSE NEIGHBOUR: 'it returns false'. Refute it at one input. -/
def csrnoGuestWrong : ChangeSpec := { name := "csrnoGuest", fn := fun _ => fun
  | [d1, d2, d3] => { results := [.lit (.bool false)], args := [d1, d2, d3] }
  | _ => none }
def CsrnoGuestWrongFalsely : Prop := csrnoGuestRow.holds Try.pinned (OpenSpec.ofChange csrnoGuestWrong)

/-- 'mezzaninelaw11.CsrnoBack': WHATEVER THE INPUT: true; the input reads as it did. -/
def csrnoBackSpec : ChangeSpec := { name := "csrnoBack", fn := fun _ => fun
  | [d1, d2] => { results := [.lit (.bool true)], args := [d1, d2] }
  | _ => none }
def csrnoBackRow : OpenClaim := { program := "ytcnalabhcalfnaa", sum := "867e4c15f1b16cd0078541384414334b21f350827a74beb1f27c70ed77ff58fe", func := "mezzanine/mezzaninelaw11.CsrnoBack", spec := "csrnoBack", unfollowed := true, recurses := true, apart := false }
def CsrnoBackSaid : Prop := csrnoBackRow.holds Try.pinned (OpenSpec.ofChange csrnoBackSpec)

/-- ITS FALSE NEIGHBOUR: 'it returns false'. Refute it at one input. -/
def csrnoBackWrong : ChangeSpec := { name := "csrnoBack", fn := fun _ => fun
  | [d1, d2] => { results := [.lit (.bool false)], args := [d1, d2] }
  | _ => none }
def CsrnoBackWrongFalsely : Prop := csrnoBackRow.holds Try.pinned (OpenSpec.ofChange csrnoBackWrong)

/- THE SECOND FORM. 'bulk': how many values and letters a reading holds, each counted each time it is reached (what is shared counts as often as it is met; a slice's spare places count too). A statement '..UptoSaid' is the law's where the arguments, and the package variables that the reading takes, are together of bulk at most 1048576: NARROWER than '..Said'. Prove '..Said' where nothing that the law and all that it calls make is longer than what came in: it says more and counts as full. Else prove '..UptoSaid'. A law counts once. -/
mutual
def uptoBulk {H : Type} : DataW H → Nat
  | .lit (.string bytes) => bytes.length + 1
  | .lit _ => 1
  | .nil => 1
  | .ptr d => uptoBulk d + 1
  | .slice elems spare => uptoBulkAll elems + uptoBulkAll spare + 1
  | .agg parts => uptoBulkAll parts + 1
  | .iface _ d => uptoBulk d + 1
  | .map entries => uptoBulkEntries entries + 1
  | .held _ => 1
def uptoBulkAll {H : Type} : List (DataW H) → Nat
  | [] => 0
  | d :: r => uptoBulk d + uptoBulkAll r
def uptoBulkEntries {H : Type} : List (Lit × DataW H) → Nat
  | [] => 0
  | x :: r => uptoBulkEntry x + uptoBulkEntries r
def uptoBulkEntry {H : Type} : Lit × DataW H → Nat
  | (.string bytes, d) => bytes.length + uptoBulk d + 1
  | (_, d) => uptoBulk d + 1
 end
def uptoSmall : (H : Type) → List (DataW H) → Bool := fun _ ds => decide (uptoBulkAll ds ≤ 1048576)
def OpenSpec.upto (s : _root_.Go.ChangeSpec) : _root_.Go.OpenSpec := { _root_.Go.OpenSpec.ofChange s with cond := some uptoSmall }

/-- 'mezzaninelaw11.CsrnoNames', WHERE WHAT IT READS IS OF BULK AT MOST 1048576: true; the input reads as it did. -/
def csrnoNamesUptoRow : OpenClaim := { program := "ytcnalabhcalfnaa", sum := "867e4c15f1b16cd0078541384414334b21f350827a74beb1f27c70ed77ff58fe", func := "mezzanine/mezzaninelaw11.CsrnoNames", spec := "csrnoNames", unfollowed := true, recurses := true, apart := false, narrowed := true }
def CsrnoNamesUptoSaid : Prop := csrnoNamesUptoRow.holds Try.pinned (OpenSpec.upto csrnoNamesSpec)

/-- 'mezzaninelaw11.CsrnoAlls', WHERE WHAT IT READS IS OF BULK AT MOST 1048576: true; the input reads as it did. -/
def csrnoAllsUptoRow : OpenClaim := { program := "ytcnalabhcalfnaa", sum := "867e4c15f1b16cd0078541384414334b21f350827a74beb1f27c70ed77ff58fe", func := "mezzanine/mezzaninelaw11.CsrnoAlls", spec := "csrnoAlls", unfollowed := true, recurses := true, apart := false, narrowed := true }
def CsrnoAllsUptoSaid : Prop := csrnoAllsUptoRow.holds Try.pinned (OpenSpec.upto csrnoAllsSpec)

/-- 'mezzaninelaw11.CsrnoChecks', WHERE WHAT IT READS IS OF BULK AT MOST 1048576: true; the input reads as it did. -/
def csrnoChecksUptoRow : OpenClaim := { program := "ytcnalabhcalfnaa", sum := "867e4c15f1b16cd0078541384414334b21f350827a74beb1f27c70ed77ff58fe", func := "mezzanine/mezzaninelaw11.CsrnoChecks", spec := "csrnoChecks", unfollowed := true, recurses := true, apart := false, narrowed := true }
def CsrnoChecksUptoSaid : Prop := csrnoChecksUptoRow.holds Try.pinned (OpenSpec.upto csrnoChecksSpec)

/-- 'mezzaninelaw11.CsrnoRises', WHERE WHAT IT READS IS OF BULK AT MOST 1048576: true; the input reads as it did. -/
def csrnoRisesUptoRow : OpenClaim := { program := "ytcnalabhcalfnaa", sum := "867e4c15f1b16cd0078541384414334b21f350827a74beb1f27c70ed77ff58fe", func := "mezzanine/mezzaninelaw11.CsrnoRises", spec := "csrnoRises", unfollowed := true, recurses := true, apart := false, narrowed := true }
def CsrnoRisesUptoSaid : Prop := csrnoRisesUptoRow.holds Try.pinned (OpenSpec.upto csrnoRisesSpec)

/-- 'mezzaninelaw11.CsrnoGuest', WHERE WHAT IT READS IS OF BULK AT MOST 1048576: true; the input reads as it did. -/
def csrnoGuestUptoRow : OpenClaim := { program := "ytcnalabhcalfnaa", sum := "867e4c15f1b16cd0078541384414334b21f350827a74beb1f27c70ed77ff58fe", func := "mezzanine/mezzaninelaw11.CsrnoGuest", spec := "csrnoGuest", unfollowed := true, recurses := true, apart := false, narrowed := true }
def CsrnoGuestUptoSaid : Prop := csrnoGuestUptoRow.holds Try.pinned (OpenSpec.upto csrnoGuestSpec)

/-- 'mezzaninelaw11.CsrnoBack', WHERE WHAT IT READS IS OF BULK AT MOST 1048576: true; the input reads as it did. -/
def csrnoBackUptoRow : OpenClaim := { program := "ytcnalabhcalfnaa", sum := "867e4c15f1b16cd0078541384414334b21f350827a74beb1f27c70ed77ff58fe", func := "mezzanine/mezzaninelaw11.CsrnoBack", spec := "csrnoBack", unfollowed := true, recurses := true, apart := false, narrowed := true }
def CsrnoBackUptoSaid : Prop := csrnoBackUptoRow.holds Try.pinned (OpenSpec.upto csrnoBackSpec)

end Rows
end Go.Proofs.Ytcnalabhcalfnaa
