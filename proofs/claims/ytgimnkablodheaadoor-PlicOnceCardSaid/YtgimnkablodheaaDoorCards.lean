/-
  DERIVED. GIVEN WITH THE SEED: THE CARDS: each row of YtgimnkablodheaaDoorRows.lean that lists a variable, with what it lists TIED to the program's text (the seventh form; the later family's looks); each row that meets fmt, with fmt's text TOLD by the authors' own Lean function (tested against real Go, not proved from fmt's source: count such statements apart). THE CARD IS WHAT COUNTS. Prove the row's statement (the work); the ties are given (YtgimnkablodheaaDoorTie.lean); close each card by the builder's one call (the guide's Derived/Test/ToyasCard.lean, 'card_holds'). Laid BY PROGRAM, IN A SANDBOX (cutbox-door.mjs). By AI agents, Wed Nov 11 2026. No macro, syntax, notation, axiom, sorry.
-/
import Derived.Test.YtgimnkablodheaaDoorRows
import GoSem.ClaimSeven
namespace Go.Proofs.YtgimnkablodheaaDoor
namespace Rows

/-- THE TIED CARD OF 'mezzaninelaw05.PlicKnown'. -/
def plicKnownCard : Claim7 := { stood := { row := plicKnownRow, standIns := [], harness := (true, "3c3f8aae3414cc228724fdd2d6e486d5f7968a81fe34128689f10ac29cf0436b"), looks := false }, kinds := [], alts := [], laidByText := true, laidKinds := [.data], laidTests := true, laidLooks := .later }
def PlicKnownCardSaid : Prop := Claim7.holds Tryd.pinned (.plain (OpenSpec.ofChange plicKnownSpec)) plicKnownCard

/-- THE TIED CARD OF 'mezzaninelaw05.PlicPlays'. -/
def plicPlaysCard : Claim7 := { stood := { row := plicPlaysRow, standIns := [], harness := (true, "3c3f8aae3414cc228724fdd2d6e486d5f7968a81fe34128689f10ac29cf0436b"), looks := false }, kinds := [], alts := [], laidByText := true, laidKinds := [.data], laidTests := true, laidLooks := .later }
def PlicPlaysCardSaid : Prop := Claim7.holds Tryd.pinned (.plain (OpenSpec.ofChange plicPlaysSpec)) plicPlaysCard

/-- THE TIED CARD OF 'mezzaninelaw05.PlicSame'. -/
def plicSameCard : Claim7 := { stood := { row := plicSameRow, standIns := [], harness := (true, "3c3f8aae3414cc228724fdd2d6e486d5f7968a81fe34128689f10ac29cf0436b"), looks := false }, kinds := [], alts := [], laidByText := true, laidKinds := [.data], laidTests := true, laidLooks := .later }
def PlicSameCardSaid : Prop := Claim7.holds Tryd.pinned (.plain (OpenSpec.ofChange plicSameSpec)) plicSameCard

/-- THE TIED CARD OF 'mezzaninelaw05.PlicOnce'. -/
def plicOnceCard : Claim7 := { stood := { row := plicOnceRow, standIns := [], harness := (true, "3c3f8aae3414cc228724fdd2d6e486d5f7968a81fe34128689f10ac29cf0436b"), looks := false }, kinds := [], alts := [], laidByText := true, laidKinds := [.data], laidTests := true, laidLooks := .later }
def PlicOnceCardSaid : Prop := Claim7.holds Tryd.pinned (.plain (OpenSpec.ofChange plicOnceSpec)) plicOnceCard

/-- THE TIED CARD OF 'mezzaninelaw05.PlicThrough'. -/
def plicThroughCard : Claim7 := { stood := { row := plicThroughRow, standIns := [], harness := (true, "3c3f8aae3414cc228724fdd2d6e486d5f7968a81fe34128689f10ac29cf0436b"), looks := false }, kinds := [], alts := [], laidByText := true, laidKinds := [.data], laidTests := true, laidLooks := .later }
def PlicThroughCardSaid : Prop := Claim7.holds Tryd.pinned (.plain (OpenSpec.ofChange plicThroughSpec)) plicThroughCard

/-- THE SECOND FORM's CARD OF 'mezzaninelaw05.PlicKnown'. -/
def plicKnownUptoCard : Claim7 := { stood := { row := plicKnownUptoRow, standIns := [], harness := (true, "3c3f8aae3414cc228724fdd2d6e486d5f7968a81fe34128689f10ac29cf0436b"), looks := false }, kinds := [], alts := [], laidByText := true, laidKinds := [.data], laidTests := true, laidLooks := .later }
def PlicKnownUptoCardSaid : Prop := Claim7.holds Tryd.pinned (.plain (OpenSpec.upto plicKnownSpec)) plicKnownUptoCard

/-- THE SECOND FORM's CARD OF 'mezzaninelaw05.PlicPlays'. -/
def plicPlaysUptoCard : Claim7 := { stood := { row := plicPlaysUptoRow, standIns := [], harness := (true, "3c3f8aae3414cc228724fdd2d6e486d5f7968a81fe34128689f10ac29cf0436b"), looks := false }, kinds := [], alts := [], laidByText := true, laidKinds := [.data], laidTests := true, laidLooks := .later }
def PlicPlaysUptoCardSaid : Prop := Claim7.holds Tryd.pinned (.plain (OpenSpec.upto plicPlaysSpec)) plicPlaysUptoCard

/-- THE SECOND FORM's CARD OF 'mezzaninelaw05.PlicSame'. -/
def plicSameUptoCard : Claim7 := { stood := { row := plicSameUptoRow, standIns := [], harness := (true, "3c3f8aae3414cc228724fdd2d6e486d5f7968a81fe34128689f10ac29cf0436b"), looks := false }, kinds := [], alts := [], laidByText := true, laidKinds := [.data], laidTests := true, laidLooks := .later }
def PlicSameUptoCardSaid : Prop := Claim7.holds Tryd.pinned (.plain (OpenSpec.upto plicSameSpec)) plicSameUptoCard

/-- THE SECOND FORM's CARD OF 'mezzaninelaw05.PlicOnce'. -/
def plicOnceUptoCard : Claim7 := { stood := { row := plicOnceUptoRow, standIns := [], harness := (true, "3c3f8aae3414cc228724fdd2d6e486d5f7968a81fe34128689f10ac29cf0436b"), looks := false }, kinds := [], alts := [], laidByText := true, laidKinds := [.data], laidTests := true, laidLooks := .later }
def PlicOnceUptoCardSaid : Prop := Claim7.holds Tryd.pinned (.plain (OpenSpec.upto plicOnceSpec)) plicOnceUptoCard

/-- THE SECOND FORM's CARD OF 'mezzaninelaw05.PlicThrough'. -/
def plicThroughUptoCard : Claim7 := { stood := { row := plicThroughUptoRow, standIns := [], harness := (true, "3c3f8aae3414cc228724fdd2d6e486d5f7968a81fe34128689f10ac29cf0436b"), looks := false }, kinds := [], alts := [], laidByText := true, laidKinds := [.data], laidTests := true, laidLooks := .later }
def PlicThroughUptoCardSaid : Prop := Claim7.holds Tryd.pinned (.plain (OpenSpec.upto plicThroughSpec)) plicThroughUptoCard
end Rows
end Go.Proofs.YtgimnkablodheaaDoor
