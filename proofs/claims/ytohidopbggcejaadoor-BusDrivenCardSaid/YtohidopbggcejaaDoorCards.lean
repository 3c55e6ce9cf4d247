/-
  DERIVED. GIVEN WITH THE SEED: THE CARDS: each row of YtohidopbggcejaaDoorRows.lean that lists a variable, with what it lists TIED to the program's text (the seventh form; the later family's looks); each row that meets fmt, with fmt's text TOLD by the authors' own Lean function (tested against real Go, not proved from fmt's source: count such statements apart). THE CARD IS WHAT COUNTS. Prove the row's statement (the work); the ties are given (YtohidopbggcejaaDoorTie.lean); close each card by the builder's one call (the guide's Derived/Test/ToyasCard.lean, 'card_holds'). Laid BY PROGRAM, IN A SANDBOX (cutbox-door.mjs). By AI agents, Wed Nov 11 2026. No macro, syntax, notation, axiom, sorry.
-/
import Derived.Test.YtohidopbggcejaaDoorRows
import GoSem.ClaimSeven
namespace Go.Proofs.YtohidopbggcejaaDoor
namespace Rows

/-- THE TIED CARD OF 'mezzaninelaw07.BusDriven'. -/
def busDrivenCard : Claim7 := { stood := { row := busDrivenRow, standIns := [], harness := (true, "5a98f62e3b8babd2ab88428a7f492a4a6d74b8bf1bec7685c5915e2d0a58f0a3"), looks := false }, kinds := [], alts := [], laidByText := true, laidKinds := [.data, .data], laidTests := true, laidLooks := .later }
def BusDrivenCardSaid : Prop := Claim7.holds Tryd.pinned (.plain (OpenSpec.ofChange busDrivenSpec)) busDrivenCard

/-- THE SECOND FORM's CARD OF 'mezzaninelaw07.BusDriven'. -/
def busDrivenUptoCard : Claim7 := { stood := { row := busDrivenUptoRow, standIns := [], harness := (true, "5a98f62e3b8babd2ab88428a7f492a4a6d74b8bf1bec7685c5915e2d0a58f0a3"), looks := false }, kinds := [], alts := [], laidByText := true, laidKinds := [.data, .data], laidTests := true, laidLooks := .later }
def BusDrivenUptoCardSaid : Prop := Claim7.holds Tryd.pinned (.plain (OpenSpec.upto busDrivenSpec)) busDrivenUptoCard
end Rows
end Go.Proofs.YtohidopbggcejaaDoor
