/-
  NARROWER THAN 'FOR EVERY INPUT', by the rows' own cells (each row's printed sentence says how): DecodeWords: laid · DecodeEncodes: laid · DecodeNames: laid · DecodeTables: laid · DecodeBack: laid · DecodeNear: laid · DecodeKeeps: laid.
  DERIVED. THE GIVEN ROWS OF THIS SEAT. 7 by the template 'for every input the law returns true; each argument reads behind the call as it read before'; 0 by the template 'total and deterministic' (their statements: YtehlihhnkojjeaaDoorTotals.lean).
  GIVEN WITH THE SEED: the statements are not yours to turn. If you find one false, say at which input.
  Laid BY PROGRAM, IN A SANDBOX (cutbox-rows.mjs): the forced cells as the released guide's own fill.sh prints them over the translation 43ad1503a4fe5766… (all of the seat's roots in one cut). By AI agents, Wed Nov 11 2026. No macro, syntax, notation, axiom, sorry.
-/
import Derived.Test.YtehlihhnkojjeaaDoorChecked
import GoSem.Claim
import GoSem.ClaimJoined
import GoSem.ClaimMapViews
import Derived.JoinedTies
import Derived.KernelRfl
namespace Go.Proofs.YtehlihhnkojjeaaDoor
/- THE CELL 'sum', in the pinned program and in every row, IS THE sha256 OF THE DUMP (.gsa) THAT YtehlihhnkojjeaaDoorProg.lean LOADS. Nothing in Lean hashes anything: it is a label: what it is worth is what the hold of that sum in a sandbox is worth. -/
noncomputable def Tryd.pinned : Pinned := { name := "ytehlihhnkojjeaadoor", sum := "43ad1503a4fe5766862e6705fe09e97dffd072b3d6878a921f748a74234f279e", checked := Tryd.checked }
namespace Rows
def none {H : Type} : Left H := { results := [], args := [] }

/- WHAT THE LISTED PACKAGE-LEVEL VARIABLES READ AS WHEN THE CALL BEGINS. Each datum BY PROGRAM (the guide's laid-datum.mjs) off the statement by which the dump's own 'gosem.cut.vars' lays the variable. In a bare row this is a premise. The card (YtehlihhnkojjeaaDoorCards.lean) ties it to the program's text. -/
def laid_mezzanine_decode_forms {H : Type} : DataW H := .agg [.agg [.lit (.int .u32 127), .lit (.bool true), .lit (.bool false), .lit (.bool false), .lit (.int .i64 4), .lit (.bool false), .lit (.bool false)], .agg [.lit (.int .u32 127), .lit (.bool true), .lit (.bool false), .lit (.bool false), .lit (.int .i64 5), .lit (.bool false), .lit (.bool false)], .agg [.lit (.int .u32 28799), .lit (.bool true), .lit (.bool true), .lit (.bool false), .lit (.int .i64 1), .lit (.bool false), .lit (.bool false)], .agg [.lit (.int .u32 28799), .lit (.bool false), .lit (.bool true), .lit (.bool true), .lit (.int .i64 3), .lit (.bool false), .lit (.bool false)], .agg [.lit (.int .u32 28799), .lit (.bool false), .lit (.bool true), .lit (.bool true), .lit (.int .i64 2), .lit (.bool false), .lit (.bool false)], .agg [.lit (.int .u32 4227887231), .lit (.bool true), .lit (.bool true), .lit (.bool false), .lit (.int .i64 6), .lit (.bool false), .lit (.bool false)], .agg [.lit (.int .u32 4261441663), .lit (.bool true), .lit (.bool true), .lit (.bool false), .lit (.int .i64 7), .lit (.bool false), .lit (.bool false)], .agg [.lit (.int .u32 4261441663), .lit (.bool true), .lit (.bool true), .lit (.bool true), .lit (.int .i64 0), .lit (.bool false), .lit (.bool false)], .agg [.lit (.int .u32 4193284223), .lit (.bool true), .lit (.bool true), .lit (.bool false), .lit (.int .i64 0), .lit (.bool false), .lit (.bool true)], .agg [.lit (.int .u32 4160778367), .lit (.bool true), .lit (.bool true), .lit (.bool true), .lit (.int .i64 0), .lit (.bool false), .lit (.bool true)], .agg [.lit (.int .u32 4294967295), .lit (.bool false), .lit (.bool false), .lit (.bool false), .lit (.int .i64 0), .lit (.bool false), .lit (.bool false)], .agg [.lit (.int .u32 4261445631), .lit (.bool false), .lit (.bool true), .lit (.bool true), .lit (.int .i64 0), .lit (.bool false), .lit (.bool false)], .agg [.lit (.int .u32 28799), .lit (.bool true), .lit (.bool true), .lit (.bool false), .lit (.int .i64 0), .lit (.bool true), .lit (.bool false)], .agg [.lit (.int .u32 28799), .lit (.bool true), .lit (.bool false), .lit (.bool false), .lit (.int .i64 9), .lit (.bool true), .lit (.bool false)], .agg [.lit (.int .u32 4293947519), .lit (.bool true), .lit (.bool true), .lit (.bool false), .lit (.int .i64 0), .lit (.bool false), .lit (.bool false)]]

/-- 'mezzaninelaw09.DecodeWords': WHATEVER THE INPUT: true; the input reads as it did. -/
def decodeWordsSpec : ChangeSpec := { name := "decodeWords", fn := fun _ => fun
  | [d] => { results := [.lit (.bool true)], args := [d] }
  | _ => none }
def decodeWordsRow : OpenClaim := { program := "ytehlihhnkojjeaadoor", sum := "43ad1503a4fe5766862e6705fe09e97dffd072b3d6878a921f748a74234f279e", func := "mezzanine/mezzaninelaw09.DecodeWords", spec := "decodeWords", named := ["mezzanine/decode.forms"], apart := false, laid := [("mezzanine/decode.forms", laid_mezzanine_decode_forms)] }
def DecodeWordsSaid : Prop := decodeWordsRow.holds Tryd.pinned (OpenSpec.ofChange decodeWordsSpec)

/-- ITS FALSE NEIGHBOUR: 'it returns false'. Refute it at one input. -/
def decodeWordsWrong : ChangeSpec := { name := "decodeWords", fn := fun _ => fun
  | [d] => { results := [.lit (.bool false)], args := [d] }
  | _ => none }
def DecodeWordsWrongFalsely : Prop := decodeWordsRow.holds Tryd.pinned (OpenSpec.ofChange decodeWordsWrong)

/-- 'mezzaninelaw09.DecodeEncodes': WHATEVER THE INPUT: true; the input reads as it did. -/
def decodeEncodesSpec : ChangeSpec := { name := "decodeEncodes", fn := fun _ => fun
  | [d] => { results := [.lit (.bool true)], args := [d] }
  | _ => none }
def decodeEncodesRow : OpenClaim := { program := "ytehlihhnkojjeaadoor", sum := "43ad1503a4fe5766862e6705fe09e97dffd072b3d6878a921f748a74234f279e", func := "mezzanine/mezzaninelaw09.DecodeEncodes", spec := "decodeEncodes", named := ["mezzanine/decode.forms"], apart := false, laid := [("mezzanine/decode.forms", laid_mezzanine_decode_forms)] }
def DecodeEncodesSaid : Prop := decodeEncodesRow.holds Tryd.pinned (OpenSpec.ofChange decodeEncodesSpec)

/-- ITS FALSE NEIGHBOUR: 'it returns false'. Refute it at one input. -/
def decodeEncodesWrong : ChangeSpec := { name := "decodeEncodes", fn := fun _ => fun
  | [d] => { results := [.lit (.bool false)], args := [d] }
  | _ => none }
def DecodeEncodesWrongFalsely : Prop := decodeEncodesRow.holds Tryd.pinned (OpenSpec.ofChange decodeEncodesWrong)

/-- 'mezzaninelaw09.DecodeNames': WHATEVER THE INPUT: true; the input reads as it did. -/
def decodeNamesSpec : ChangeSpec := { name := "decodeNames", fn := fun _ => fun
  | [d1, d2] => { results := [.lit (.bool true)], args := [d1, d2] }
  | _ => none }
def decodeNamesRow : OpenClaim := { program := "ytehlihhnkojjeaadoor", sum := "43ad1503a4fe5766862e6705fe09e97dffd072b3d6878a921f748a74234f279e", func := "mezzanine/mezzaninelaw09.DecodeNames", spec := "decodeNames", named := ["mezzanine/decode.forms"], apart := false, laid := [("mezzanine/decode.forms", laid_mezzanine_decode_forms)] }
def DecodeNamesSaid : Prop := decodeNamesRow.holds Tryd.pinned (OpenSpec.ofChange decodeNamesSpec)

/-- ITS FALSE NEIGHBOUR: 'it returns false'. Refute it at one input. -/
def decodeNamesWrong : ChangeSpec := { name := "decodeNames", fn := fun _ => fun
  | [d1, d2] => { results := [.lit (.bool false)], args := [d1, d2] }
  | _ => none }
def DecodeNamesWrongFalsely : Prop := decodeNamesRow.holds Tryd.pinned (OpenSpec.ofChange decodeNamesWrong)

/-- 'mezzaninelaw09.DecodeTables': WHATEVER THE INPUT: true; the input reads as it did. -/
def decodeTablesSpec : ChangeSpec := { name := "decodeTables", fn := fun _ => fun
  | [d1, d2] => { results := [.lit (.bool true)], args := [d1, d2] }
  | _ => none }
def decodeTablesRow : OpenClaim := { program := "ytehlihhnkojjeaadoor", sum := "43ad1503a4fe5766862e6705fe09e97dffd072b3d6878a921f748a74234f279e", func := "mezzanine/mezzaninelaw09.DecodeTables", spec := "decodeTables", inPlace := ["sync/atomic.LoadUint32", "(*internal/sync.Mutex).Lock", "internal/race.Disable", "sync/atomic.CompareAndSwapInt32", "internal/race.Enable", "internal/race.Acquire", "(*internal/sync.Mutex).lockSlow", "internal/sync.runtime_canSpin", "internal/sync.runtime_doSpin", "internal/sync.throw", "internal/sync.runtime_nanotime", "internal/sync.runtime_SemacquireMutex", "sync/atomic.AddInt32", "(*internal/sync.Mutex).Unlock", "internal/race.ReleaseMerge", "(*internal/sync.Mutex).unlockSlow", "internal/sync.fatal", "internal/sync.runtime_Semrelease", "sync/atomic.StoreUint32"], unfollowed := true, recurses := true, named := ["mezzanine/decode.forms"], apart := false, laid := [("mezzanine/decode.forms", laid_mezzanine_decode_forms)] }
def DecodeTablesSaid : Prop := decodeTablesRow.holds Tryd.pinned (OpenSpec.ofChange decodeTablesSpec)

/-- ITS FALSE NEIGHBOUR: 'it returns false'. Refute it at one input. -/
def decodeTablesWrong : ChangeSpec := { name := "decodeTables", fn := fun _ => fun
  | [d1, d2] => { results := [.lit (.bool false)], args := [d1, d2] }
  | _ => none }
def DecodeTablesWrongFalsely : Prop := decodeTablesRow.holds Tryd.pinned (OpenSpec.ofChange decodeTablesWrong)

/-- 'mezzaninelaw09.DecodeBack': WHATEVER THE INPUT: true; the input reads as it did. -/
def decodeBackSpec : ChangeSpec := { name := "decodeBack", fn := fun _ => fun
  | [d1, d2] => { results := [.lit (.bool true)], args := [d1, d2] }
  | _ => none }
def decodeBackRow : OpenClaim := { program := "ytehlihhnkojjeaadoor", sum := "43ad1503a4fe5766862e6705fe09e97dffd072b3d6878a921f748a74234f279e", func := "mezzanine/mezzaninelaw09.DecodeBack", spec := "decodeBack", named := ["mezzanine/decode.forms"], apart := false, laid := [("mezzanine/decode.forms", laid_mezzanine_decode_forms)] }
def DecodeBackSaid : Prop := decodeBackRow.holds Tryd.pinned (OpenSpec.ofChange decodeBackSpec)

/-- ITS FALSE NEIGHBOUR: 'it returns false'. Refute it at one input. -/
def decodeBackWrong : ChangeSpec := { name := "decodeBack", fn := fun _ => fun
  | [d1, d2] => { results := [.lit (.bool false)], args := [d1, d2] }
  | _ => none }
def DecodeBackWrongFalsely : Prop := decodeBackRow.holds Tryd.pinned (OpenSpec.ofChange decodeBackWrong)

/-- 'mezzaninelaw09.DecodeNear': WHATEVER THE INPUT: true; the input reads as it did. -/
def decodeNearSpec : ChangeSpec := { name := "decodeNear", fn := fun _ => fun
  | [d1, d2] => { results := [.lit (.bool true)], args := [d1, d2] }
  | _ => none }
def decodeNearRow : OpenClaim := { program := "ytehlihhnkojjeaadoor", sum := "43ad1503a4fe5766862e6705fe09e97dffd072b3d6878a921f748a74234f279e", func := "mezzanine/mezzaninelaw09.DecodeNear", spec := "decodeNear", named := ["mezzanine/decode.forms"], apart := false, laid := [("mezzanine/decode.forms", laid_mezzanine_decode_forms)] }
def DecodeNearSaid : Prop := decodeNearRow.holds Tryd.pinned (OpenSpec.ofChange decodeNearSpec)

/-- ITS FALSE NEIGHBOUR: 'it returns false'. Refute it at one input. -/
def decodeNearWrong : ChangeSpec := { name := "decodeNear", fn := fun _ => fun
  | [d1, d2] => { results := [.lit (.bool false)], args := [d1, d2] }
  | _ => none }
def DecodeNearWrongFalsely : Prop := decodeNearRow.holds Tryd.pinned (OpenSpec.ofChange decodeNearWrong)

/-- 'mezzaninelaw09.DecodeKeeps': WHATEVER THE INPUT: true; the input reads as it did. -/
def decodeKeepsSpec : ChangeSpec := { name := "decodeKeeps", fn := fun _ => fun
  | [d1, d2, d3, d4] => { results := [.lit (.bool true)], args := [d1, d2, d3, d4] }
  | _ => none }
def decodeKeepsRow : OpenClaim := { program := "ytehlihhnkojjeaadoor", sum := "43ad1503a4fe5766862e6705fe09e97dffd072b3d6878a921f748a74234f279e", func := "mezzanine/mezzaninelaw09.DecodeKeeps", spec := "decodeKeeps", named := ["mezzanine/decode.forms"], apart := false, laid := [("mezzanine/decode.forms", laid_mezzanine_decode_forms)] }
def DecodeKeepsSaid : Prop := decodeKeepsRow.holds Tryd.pinned (OpenSpec.ofChange decodeKeepsSpec)

/-- ITS FALSE NEIGHBOUR: 'it returns false'. Refute it at one input. -/
def decodeKeepsWrong : ChangeSpec := { name := "decodeKeeps", fn := fun _ => fun
  | [d1, d2, d3, d4] => { results := [.lit (.bool false)], args := [d1, d2, d3, d4] }
  | _ => none }
def DecodeKeepsWrongFalsely : Prop := decodeKeepsRow.holds Tryd.pinned (OpenSpec.ofChange decodeKeepsWrong)

/- THE SECOND FORM. 'bulk': how many values and letters a reading holds, each counted each time it is reached (what is shared counts as often as it is met; a slice's spare places count too). A statement '..UptoSaid' is the law's where the arguments, and the package variables that the reading takes, are together of bulk at most 1048576: NARROWER than '..Said'. Prove '..Said' where nothing that the law and all that it calls make is longer than what came in: it says more and counts as full. Else prove '..UptoSaid'. A law counts once. -/
mutual
def uptoBulk {H : Type} : DataW H → Nat
  | .lit (.string bytes) => bytes.length + 1
  | .lit _ => 1
  | .nil => 1
  | .ptr d => uptoBulk d + 1
  | .slice elems spare => uptoBulkAll elems + uptoBulkAll spare + 1
  | .agg parts => uptoBulkAll parts + 1
  | .iface _ d => uptoBulk d + 1
  | .map entries => uptoBulkEntries entries + 1
  | .held _ => 1
def uptoBulkAll {H : Type} : List (DataW H) → Nat
  | [] => 0
  | d :: r => uptoBulk d + uptoBulkAll r
def uptoBulkEntries {H : Type} : List (Lit × DataW H) → Nat
  | [] => 0
  | x :: r => uptoBulkEntry x + uptoBulkEntries r
def uptoBulkEntry {H : Type} : Lit × DataW H → Nat
  | (.string bytes, d) => bytes.length + uptoBulk d + 1
  | (_, d) => uptoBulk d + 1
 end
def uptoSmall : (H : Type) → List (DataW H) → Bool := fun _ ds => decide (uptoBulkAll ds ≤ 1048576)
def OpenSpec.upto (s : _root_.Go.ChangeSpec) : _root_.Go.OpenSpec := { _root_.Go.OpenSpec.ofChange s with cond := some uptoSmall }

/-- 'mezzaninelaw09.DecodeWords', WHERE WHAT IT READS IS OF BULK AT MOST 1048576: true; the input reads as it did. -/
def decodeWordsUptoRow : OpenClaim := { program := "ytehlihhnkojjeaadoor", sum := "43ad1503a4fe5766862e6705fe09e97dffd072b3d6878a921f748a74234f279e", func := "mezzanine/mezzaninelaw09.DecodeWords", spec := "decodeWords", named := ["mezzanine/decode.forms"], apart := false, laid := [("mezzanine/decode.forms", laid_mezzanine_decode_forms)], narrowed := true }
def DecodeWordsUptoSaid : Prop := decodeWordsUptoRow.holds Tryd.pinned (OpenSpec.upto decodeWordsSpec)

/-- 'mezzaninelaw09.DecodeEncodes', WHERE WHAT IT READS IS OF BULK AT MOST 1048576: true; the input reads as it did. -/
def decodeEncodesUptoRow : OpenClaim := { program := "ytehlihhnkojjeaadoor", sum := "43ad1503a4fe5766862e6705fe09e97dffd072b3d6878a921f748a74234f279e", func := "mezzanine/mezzaninelaw09.DecodeEncodes", spec := "decodeEncodes", named := ["mezzanine/decode.forms"], apart := false, laid := [("mezzanine/decode.forms", laid_mezzanine_decode_forms)], narrowed := true }
def DecodeEncodesUptoSaid : Prop := decodeEncodesUptoRow.holds Tryd.pinned (OpenSpec.upto decodeEncodesSpec)

/-- 'mezzaninelaw09.DecodeNames', WHERE WHAT IT READS IS OF BULK AT MOST 1048576: true; the input reads as it did. -/
def decodeNamesUptoRow : OpenClaim := { program := "ytehlihhnkojjeaadoor", sum := "43ad1503a4fe5766862e6705fe09e97dffd072b3d6878a921f748a74234f279e", func := "mezzanine/mezzaninelaw09.DecodeNames", spec := "decodeNames", named := ["mezzanine/decode.forms"], apart := false, laid := [("mezzanine/decode.forms", laid_mezzanine_decode_forms)], narrowed := true }
def DecodeNamesUptoSaid : Prop := decodeNamesUptoRow.holds Tryd.pinned (OpenSpec.upto decodeNamesSpec)

/-- 'mezzaninelaw09.DecodeTables', WHERE WHAT IT READS IS OF BULK AT MOST 1048576: true; the input reads as it did. -/
def decodeTablesUptoRow : OpenClaim := { program := "ytehlihhnkojjeaadoor", sum := "43ad1503a4fe5766862e6705fe09e97dffd072b3d6878a921f748a74234f279e", func := "mezzanine/mezzaninelaw09.DecodeTables", spec := "decodeTables", inPlace := ["sync/atomic.LoadUint32", "(*internal/sync.Mutex).Lock", "internal/race.Disable", "sync/atomic.CompareAndSwapInt32", "internal/race.Enable", "internal/race.Acquire", "(*internal/sync.Mutex).lockSlow", "internal/sync.runtime_canSpin", "internal/sync.runtime_doSpin", "internal/sync.throw", "internal/sync.runtime_nanotime", "internal/sync.runtime_SemacquireMutex", "sync/atomic.AddInt32", "(*internal/sync.Mutex).Unlock", "internal/race.ReleaseMerge", "(*internal/sync.Mutex).unlockSlow", "internal/sync.fatal", "internal/sync.runtime_Semrelease", "sync/atomic.StoreUint32"], unfollowed := true, recurses := true, named := ["mezzanine/decode.forms"], apart := false, laid := [("mezzanine/decode.forms", laid_mezzanine_decode_forms)], narrowed := true }
def DecodeTablesUptoSaid : Prop := decodeTablesUptoRow.holds Tryd.pinned (OpenSpec.upto decodeTablesSpec)

/-- 'mezzaninelaw09.DecodeBack', WHERE WHAT IT READS IS OF BULK AT MOST 1048576: true; the input reads as it did. -/
def decodeBackUptoRow : OpenClaim := { program := "ytehlihhnkojjeaadoor", sum := "43ad1503a4fe5766862e6705fe09e97dffd072b3d6878a921f748a74234f279e", func := "mezzanine/mezzaninelaw09.DecodeBack", spec := "decodeBack", named := ["mezzanine/decode.forms"], apart := false, laid := [("mezzanine/decode.forms", laid_mezzanine_decode_forms)], narrowed := true }
def DecodeBackUptoSaid : Prop := decodeBackUptoRow.holds Tryd.pinned (OpenSpec.upto decodeBackSpec)

/-- 'mezzaninelaw09.DecodeNear', WHERE WHAT IT READS IS OF BULK AT MOST 1048576: true; the input reads as it did. -/
def decodeNearUptoRow : OpenClaim := { program := "ytehlihhnkojjeaadoor", sum := "43ad1503a4fe5766862e6705fe09e97dffd072b3d6878a921f748a74234f279e", func := "mezzanine/mezzaninelaw09.DecodeNear", spec := "decodeNear", named := ["mezzanine/decode.forms"], apart := false, laid := [("mezzanine/decode.forms", laid_mezzanine_decode_forms)], narrowed := true }
def DecodeNearUptoSaid : Prop := decodeNearUptoRow.holds Tryd.pinned (OpenSpec.upto decodeNearSpec)

/-- 'mezzaninelaw09.DecodeKeeps', WHERE WHAT IT READS IS OF BULK AT MOST 1048576: true; the input reads as it did. -/
def decodeKeepsUptoRow : OpenClaim := { program := "ytehlihhnkojjeaadoor", sum := "43ad1503a4fe5766862e6705fe09e97dffd072b3d6878a921f748a74234f279e", func := "mezzanine/mezzaninelaw09.DecodeKeeps", spec := "decodeKeeps", named := ["mezzanine/decode.forms"], apart := false, laid := [("mezzanine/decode.forms", laid_mezzanine_decode_forms)], narrowed := true }
def DecodeKeepsUptoSaid : Prop := decodeKeepsUptoRow.holds Tryd.pinned (OpenSpec.upto decodeKeepsSpec)

end Rows
end Go.Proofs.YtehlihhnkojjeaaDoor
