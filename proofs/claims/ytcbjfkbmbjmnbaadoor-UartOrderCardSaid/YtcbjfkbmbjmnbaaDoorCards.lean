/-
  DERIVED. GIVEN WITH THE SEED: THE CARDS: each row of YtcbjfkbmbjmnbaaDoorRows.lean that lists a variable, with what it lists TIED to the program's text (the seventh form; the later family's looks); each row that meets fmt, with fmt's text TOLD by the authors' own Lean function (tested against real Go, not proved from fmt's source: count such statements apart). THE CARD IS WHAT COUNTS. Prove the row's statement (the work); the ties are given (YtcbjfkbmbjmnbaaDoorTie.lean); close each card by the builder's one call (the guide's Derived/Test/ToyasCard.lean, 'card_holds'). Laid BY PROGRAM, IN A SANDBOX (cutbox-door.mjs). By AI agents, Wed Nov 11 2026. No macro, syntax, notation, axiom, sorry.
-/
import Derived.Test.YtcbjfkbmbjmnbaaDoorRows
import GoSem.ClaimSeven
namespace Go.Proofs.YtcbjfkbmbjmnbaaDoor
namespace Rows

/-- THE TIED CARD OF 'mezzaninelaw06.UartKnown'. -/
def uartKnownCard : Claim7 := { stood := { row := uartKnownRow, standIns := [], harness := (true, "36b1ee49d83782198247df832767961fcd77c3576e9bf962e348e7dcef31f22b"), looks := false }, kinds := [], alts := [], laidByText := true, laidKinds := [.data], laidTests := true, laidLooks := .later }
def UartKnownCardSaid : Prop := Claim7.holds Tryd.pinned (.plain (OpenSpec.ofChange uartKnownSpec)) uartKnownCard

/-- THE TIED CARD OF 'mezzaninelaw06.UartPlays'. -/
def uartPlaysCard : Claim7 := { stood := { row := uartPlaysRow, standIns := [], harness := (true, "36b1ee49d83782198247df832767961fcd77c3576e9bf962e348e7dcef31f22b"), looks := false }, kinds := [], alts := [], laidByText := true, laidKinds := [.data], laidTests := true, laidLooks := .later }
def UartPlaysCardSaid : Prop := Claim7.holds Tryd.pinned (.plain (OpenSpec.ofChange uartPlaysSpec)) uartPlaysCard

/-- THE TIED CARD OF 'mezzaninelaw06.UartSame'. -/
def uartSameCard : Claim7 := { stood := { row := uartSameRow, standIns := [], harness := (true, "36b1ee49d83782198247df832767961fcd77c3576e9bf962e348e7dcef31f22b"), looks := false }, kinds := [], alts := [], laidByText := true, laidKinds := [.data], laidTests := true, laidLooks := .later }
def UartSameCardSaid : Prop := Claim7.holds Tryd.pinned (.plain (OpenSpec.ofChange uartSameSpec)) uartSameCard

/-- THE TIED CARD OF 'mezzaninelaw06.UartFull'. -/
def uartFullCard : Claim7 := { stood := { row := uartFullRow, standIns := [], harness := (true, "36b1ee49d83782198247df832767961fcd77c3576e9bf962e348e7dcef31f22b"), looks := false }, kinds := [], alts := [], laidByText := true, laidKinds := [.data], laidTests := true, laidLooks := .later }
def UartFullCardSaid : Prop := Claim7.holds Tryd.pinned (.plain (OpenSpec.ofChange uartFullSpec)) uartFullCard

/-- THE TIED CARD OF 'mezzaninelaw06.UartOrder'. -/
def uartOrderCard : Claim7 := { stood := { row := uartOrderRow, standIns := [], harness := (true, "36b1ee49d83782198247df832767961fcd77c3576e9bf962e348e7dcef31f22b"), looks := false }, kinds := [], alts := [], laidByText := true, laidKinds := [.data], laidTests := true, laidLooks := .later }
def UartOrderCardSaid : Prop := Claim7.holds Tryd.pinned (.plain (OpenSpec.ofChange uartOrderSpec)) uartOrderCard

/-- THE TIED CARD OF 'mezzaninelaw06.UartStill'. -/
def uartStillCard : Claim7 := { stood := { row := uartStillRow, standIns := [], harness := (true, "36b1ee49d83782198247df832767961fcd77c3576e9bf962e348e7dcef31f22b"), looks := false }, kinds := [], alts := [], laidByText := true, laidKinds := [.data], laidTests := true, laidLooks := .later }
def UartStillCardSaid : Prop := Claim7.holds Tryd.pinned (.plain (OpenSpec.ofChange uartStillSpec)) uartStillCard

/-- THE SECOND FORM's CARD OF 'mezzaninelaw06.UartKnown'. -/
def uartKnownUptoCard : Claim7 := { stood := { row := uartKnownUptoRow, standIns := [], harness := (true, "36b1ee49d83782198247df832767961fcd77c3576e9bf962e348e7dcef31f22b"), looks := false }, kinds := [], alts := [], laidByText := true, laidKinds := [.data], laidTests := true, laidLooks := .later }
def UartKnownUptoCardSaid : Prop := Claim7.holds Tryd.pinned (.plain (OpenSpec.upto uartKnownSpec)) uartKnownUptoCard

/-- THE SECOND FORM's CARD OF 'mezzaninelaw06.UartPlays'. -/
def uartPlaysUptoCard : Claim7 := { stood := { row := uartPlaysUptoRow, standIns := [], harness := (true, "36b1ee49d83782198247df832767961fcd77c3576e9bf962e348e7dcef31f22b"), looks := false }, kinds := [], alts := [], laidByText := true, laidKinds := [.data], laidTests := true, laidLooks := .later }
def UartPlaysUptoCardSaid : Prop := Claim7.holds Tryd.pinned (.plain (OpenSpec.upto uartPlaysSpec)) uartPlaysUptoCard

/-- THE SECOND FORM's CARD OF 'mezzaninelaw06.UartSame'. -/
def uartSameUptoCard : Claim7 := { stood := { row := uartSameUptoRow, standIns := [], harness := (true, "36b1ee49d83782198247df832767961fcd77c3576e9bf962e348e7dcef31f22b"), looks := false }, kinds := [], alts := [], laidByText := true, laidKinds := [.data], laidTests := true, laidLooks := .later }
def UartSameUptoCardSaid : Prop := Claim7.holds Tryd.pinned (.plain (OpenSpec.upto uartSameSpec)) uartSameUptoCard

/-- THE SECOND FORM's CARD OF 'mezzaninelaw06.UartFull'. -/
def uartFullUptoCard : Claim7 := { stood := { row := uartFullUptoRow, standIns := [], harness := (true, "36b1ee49d83782198247df832767961fcd77c3576e9bf962e348e7dcef31f22b"), looks := false }, kinds := [], alts := [], laidByText := true, laidKinds := [.data], laidTests := true, laidLooks := .later }
def UartFullUptoCardSaid : Prop := Claim7.holds Tryd.pinned (.plain (OpenSpec.upto uartFullSpec)) uartFullUptoCard

/-- THE SECOND FORM's CARD OF 'mezzaninelaw06.UartOrder'. -/
def uartOrderUptoCard : Claim7 := { stood := { row := uartOrderUptoRow, standIns := [], harness := (true, "36b1ee49d83782198247df832767961fcd77c3576e9bf962e348e7dcef31f22b"), looks := false }, kinds := [], alts := [], laidByText := true, laidKinds := [.data], laidTests := true, laidLooks := .later }
def UartOrderUptoCardSaid : Prop := Claim7.holds Tryd.pinned (.plain (OpenSpec.upto uartOrderSpec)) uartOrderUptoCard

/-- THE SECOND FORM's CARD OF 'mezzaninelaw06.UartStill'. -/
def uartStillUptoCard : Claim7 := { stood := { row := uartStillUptoRow, standIns := [], harness := (true, "36b1ee49d83782198247df832767961fcd77c3576e9bf962e348e7dcef31f22b"), looks := false }, kinds := [], alts := [], laidByText := true, laidKinds := [.data], laidTests := true, laidLooks := .later }
def UartStillUptoCardSaid : Prop := Claim7.holds Tryd.pinned (.plain (OpenSpec.upto uartStillSpec)) uartStillUptoCard
end Rows
end Go.Proofs.YtcbjfkbmbjmnbaaDoor
