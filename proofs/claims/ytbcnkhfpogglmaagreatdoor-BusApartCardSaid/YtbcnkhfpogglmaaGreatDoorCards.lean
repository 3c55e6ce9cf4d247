/-
  DERIVED. GIVEN WITH THE SEED: THE CARDS: each row of YtbcnkhfpogglmaaGreatDoorRows.lean that lists a variable, with what it lists TIED to the program's text (the seventh form; the later family's looks); each row that meets fmt, with fmt's text TOLD by the authors' own Lean function (tested against real Go, not proved from fmt's source: count such statements apart). THE CARD IS WHAT COUNTS. Prove the row's statement (the work); the ties are given (YtbcnkhfpogglmaaGreatDoorTie.lean); close each card by the builder's one call (the guide's Derived/Test/ToyasCard.lean, 'card_holds'). Laid BY PROGRAM, IN A SANDBOX (cutbox-door.mjs). By AI agents, Wed Nov 11 2026. No macro, syntax, notation, axiom, sorry.
-/
import Derived.Test.YtbcnkhfpogglmaaGreatDoorRows
import GoSem.ClaimSeven
namespace Go.Proofs.YtbcnkhfpogglmaaGreatDoor
namespace Rows

/-- THE TIED CARD OF 'mezzaninelaw07.BusKnown'. -/
def busKnownCard : Claim7 := { stood := { row := busKnownRow, standIns := [], harness := (true, "d6678bc6a1cd1b4ac978e845064fccb931b8687caa4462ae1147b7a723dbb448"), looks := false }, kinds := [], alts := [], laidByText := true, laidKinds := [.data, .data], laidTests := true, laidLooks := .later }
def BusKnownCardSaid : Prop := Claim7.holds Tryz.pinned (.plain (OpenSpec.ofChange busKnownSpec)) busKnownCard

/-- THE TIED CARD OF 'mezzaninelaw07.BusPlays'. -/
def busPlaysCard : Claim7 := { stood := { row := busPlaysRow, standIns := [], harness := (true, "d6678bc6a1cd1b4ac978e845064fccb931b8687caa4462ae1147b7a723dbb448"), looks := false }, kinds := [], alts := [], laidByText := true, laidKinds := [.data, .data], laidTests := true, laidLooks := .later }
def BusPlaysCardSaid : Prop := Claim7.holds Tryz.pinned (.plain (OpenSpec.ofChange busPlaysSpec)) busPlaysCard

/-- THE TIED CARD OF 'mezzaninelaw07.BusSame'. -/
def busSameCard : Claim7 := { stood := { row := busSameRow, standIns := [], harness := (true, "d6678bc6a1cd1b4ac978e845064fccb931b8687caa4462ae1147b7a723dbb448"), looks := false }, kinds := [], alts := [], laidByText := true, laidKinds := [.data, .data], laidTests := true, laidLooks := .later }
def BusSameCardSaid : Prop := Claim7.holds Tryz.pinned (.plain (OpenSpec.ofChange busSameSpec)) busSameCard

/-- THE TIED CARD OF 'mezzaninelaw07.BusApart'. -/
def busApartCard : Claim7 := { stood := { row := busApartRow, standIns := [], harness := (true, "d6678bc6a1cd1b4ac978e845064fccb931b8687caa4462ae1147b7a723dbb448"), looks := false }, kinds := [], alts := [], laidByText := true, laidKinds := [.data, .data], laidTests := true, laidLooks := .later }
def BusApartCardSaid : Prop := Claim7.holds Tryz.pinned (.plain (OpenSpec.ofChange busApartSpec)) busApartCard

/-- THE SECOND FORM's CARD OF 'mezzaninelaw07.BusKnown'. -/
def busKnownUptoCard : Claim7 := { stood := { row := busKnownUptoRow, standIns := [], harness := (true, "d6678bc6a1cd1b4ac978e845064fccb931b8687caa4462ae1147b7a723dbb448"), looks := false }, kinds := [], alts := [], laidByText := true, laidKinds := [.data, .data], laidTests := true, laidLooks := .later }
def BusKnownUptoCardSaid : Prop := Claim7.holds Tryz.pinned (.plain (OpenSpec.upto busKnownSpec)) busKnownUptoCard

/-- THE SECOND FORM's CARD OF 'mezzaninelaw07.BusPlays'. -/
def busPlaysUptoCard : Claim7 := { stood := { row := busPlaysUptoRow, standIns := [], harness := (true, "d6678bc6a1cd1b4ac978e845064fccb931b8687caa4462ae1147b7a723dbb448"), looks := false }, kinds := [], alts := [], laidByText := true, laidKinds := [.data, .data], laidTests := true, laidLooks := .later }
def BusPlaysUptoCardSaid : Prop := Claim7.holds Tryz.pinned (.plain (OpenSpec.upto busPlaysSpec)) busPlaysUptoCard

/-- THE SECOND FORM's CARD OF 'mezzaninelaw07.BusSame'. -/
def busSameUptoCard : Claim7 := { stood := { row := busSameUptoRow, standIns := [], harness := (true, "d6678bc6a1cd1b4ac978e845064fccb931b8687caa4462ae1147b7a723dbb448"), looks := false }, kinds := [], alts := [], laidByText := true, laidKinds := [.data, .data], laidTests := true, laidLooks := .later }
def BusSameUptoCardSaid : Prop := Claim7.holds Tryz.pinned (.plain (OpenSpec.upto busSameSpec)) busSameUptoCard

/-- THE SECOND FORM's CARD OF 'mezzaninelaw07.BusApart'. -/
def busApartUptoCard : Claim7 := { stood := { row := busApartUptoRow, standIns := [], harness := (true, "d6678bc6a1cd1b4ac978e845064fccb931b8687caa4462ae1147b7a723dbb448"), looks := false }, kinds := [], alts := [], laidByText := true, laidKinds := [.data, .data], laidTests := true, laidLooks := .later }
def BusApartUptoCardSaid : Prop := Claim7.holds Tryz.pinned (.plain (OpenSpec.upto busApartSpec)) busApartUptoCard
end Rows
end Go.Proofs.YtbcnkhfpogglmaaGreatDoor
