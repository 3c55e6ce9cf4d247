/-
  DERIVED. GIVEN WITH THE SEED: THE CARDS: each row of YtehlihhnkojjeaaDoorRows.lean that lists a variable, with what it lists TIED to the program's text (the seventh form; the later family's looks); each row that meets fmt, with fmt's text TOLD by the authors' own Lean function (tested against real Go, not proved from fmt's source: count such statements apart). THE CARD IS WHAT COUNTS. Prove the row's statement (the work); the ties are given (YtehlihhnkojjeaaDoorTie.lean); close each card by the builder's one call (the guide's Derived/Test/ToyasCard.lean, 'card_holds'). Laid BY PROGRAM, IN A SANDBOX (cutbox-door.mjs). By AI agents, Wed Nov 11 2026. No macro, syntax, notation, axiom, sorry.
-/
import Derived.Test.YtehlihhnkojjeaaDoorRows
import GoSem.ClaimSeven
namespace Go.Proofs.YtehlihhnkojjeaaDoor
namespace Rows

/-- THE TIED CARD OF 'mezzaninelaw09.DecodeWords'. -/
def decodeWordsCard : Claim7 := { stood := { row := decodeWordsRow, standIns := [], harness := (true, "88a56cde0cc5a84264d9c804a25adcaef12b4a0553a1027bb85f13202879ae60"), looks := false }, kinds := [], alts := [], laidByText := true, laidKinds := [.wider], laidTests := true, laidLooks := .later }
def DecodeWordsCardSaid : Prop := Claim7.holds Tryd.pinned (.plain (OpenSpec.ofChange decodeWordsSpec)) decodeWordsCard

/-- THE TIED CARD OF 'mezzaninelaw09.DecodeEncodes'. -/
def decodeEncodesCard : Claim7 := { stood := { row := decodeEncodesRow, standIns := [], harness := (true, "88a56cde0cc5a84264d9c804a25adcaef12b4a0553a1027bb85f13202879ae60"), looks := false }, kinds := [], alts := [], laidByText := true, laidKinds := [.wider], laidTests := true, laidLooks := .later }
def DecodeEncodesCardSaid : Prop := Claim7.holds Tryd.pinned (.plain (OpenSpec.ofChange decodeEncodesSpec)) decodeEncodesCard

/-- THE TIED CARD OF 'mezzaninelaw09.DecodeNames'. -/
def decodeNamesCard : Claim7 := { stood := { row := decodeNamesRow, standIns := [], harness := (true, "88a56cde0cc5a84264d9c804a25adcaef12b4a0553a1027bb85f13202879ae60"), looks := false }, kinds := [], alts := [], laidByText := true, laidKinds := [.wider], laidTests := true, laidLooks := .later }
def DecodeNamesCardSaid : Prop := Claim7.holds Tryd.pinned (.plain (OpenSpec.ofChange decodeNamesSpec)) decodeNamesCard

/-- THE TIED CARD OF 'mezzaninelaw09.DecodeTables'. -/
def decodeTablesCard : Claim7 := { stood := { row := decodeTablesRow, standIns := [], harness := (true, "88a56cde0cc5a84264d9c804a25adcaef12b4a0553a1027bb85f13202879ae60"), looks := false }, kinds := [], alts := [], laidByText := true, laidKinds := [.wider], laidTests := true, laidLooks := .later }
def DecodeTablesCardSaid : Prop := Claim7.holds Tryd.pinned (.plain (OpenSpec.ofChange decodeTablesSpec)) decodeTablesCard

/-- THE TIED CARD OF 'mezzaninelaw09.DecodeBack'. -/
def decodeBackCard : Claim7 := { stood := { row := decodeBackRow, standIns := [], harness := (true, "88a56cde0cc5a84264d9c804a25adcaef12b4a0553a1027bb85f13202879ae60"), looks := false }, kinds := [], alts := [], laidByText := true, laidKinds := [.wider], laidTests := true, laidLooks := .later }
def DecodeBackCardSaid : Prop := Claim7.holds Tryd.pinned (.plain (OpenSpec.ofChange decodeBackSpec)) decodeBackCard

/-- THE TIED CARD OF 'mezzaninelaw09.DecodeNear'. -/
def decodeNearCard : Claim7 := { stood := { row := decodeNearRow, standIns := [], harness := (true, "88a56cde0cc5a84264d9c804a25adcaef12b4a0553a1027bb85f13202879ae60"), looks := false }, kinds := [], alts := [], laidByText := true, laidKinds := [.wider], laidTests := true, laidLooks := .later }
def DecodeNearCardSaid : Prop := Claim7.holds Tryd.pinned (.plain (OpenSpec.ofChange decodeNearSpec)) decodeNearCard

/-- THE TIED CARD OF 'mezzaninelaw09.DecodeKeeps'. -/
def decodeKeepsCard : Claim7 := { stood := { row := decodeKeepsRow, standIns := [], harness := (true, "88a56cde0cc5a84264d9c804a25adcaef12b4a0553a1027bb85f13202879ae60"), looks := false }, kinds := [], alts := [], laidByText := true, laidKinds := [.wider], laidTests := true, laidLooks := .later }
def DecodeKeepsCardSaid : Prop := Claim7.holds Tryd.pinned (.plain (OpenSpec.ofChange decodeKeepsSpec)) decodeKeepsCard

/-- THE SECOND FORM's CARD OF 'mezzaninelaw09.DecodeWords'. -/
def decodeWordsUptoCard : Claim7 := { stood := { row := decodeWordsUptoRow, standIns := [], harness := (true, "88a56cde0cc5a84264d9c804a25adcaef12b4a0553a1027bb85f13202879ae60"), looks := false }, kinds := [], alts := [], laidByText := true, laidKinds := [.wider], laidTests := true, laidLooks := .later }
def DecodeWordsUptoCardSaid : Prop := Claim7.holds Tryd.pinned (.plain (OpenSpec.upto decodeWordsSpec)) decodeWordsUptoCard

/-- THE SECOND FORM's CARD OF 'mezzaninelaw09.DecodeEncodes'. -/
def decodeEncodesUptoCard : Claim7 := { stood := { row := decodeEncodesUptoRow, standIns := [], harness := (true, "88a56cde0cc5a84264d9c804a25adcaef12b4a0553a1027bb85f13202879ae60"), looks := false }, kinds := [], alts := [], laidByText := true, laidKinds := [.wider], laidTests := true, laidLooks := .later }
def DecodeEncodesUptoCardSaid : Prop := Claim7.holds Tryd.pinned (.plain (OpenSpec.upto decodeEncodesSpec)) decodeEncodesUptoCard

/-- THE SECOND FORM's CARD OF 'mezzaninelaw09.DecodeNames'. -/
def decodeNamesUptoCard : Claim7 := { stood := { row := decodeNamesUptoRow, standIns := [], harness := (true, "88a56cde0cc5a84264d9c804a25adcaef12b4a0553a1027bb85f13202879ae60"), looks := false }, kinds := [], alts := [], laidByText := true, laidKinds := [.wider], laidTests := true, laidLooks := .later }
def DecodeNamesUptoCardSaid : Prop := Claim7.holds Tryd.pinned (.plain (OpenSpec.upto decodeNamesSpec)) decodeNamesUptoCard

/-- THE SECOND FORM's CARD OF 'mezzaninelaw09.DecodeTables'. -/
def decodeTablesUptoCard : Claim7 := { stood := { row := decodeTablesUptoRow, standIns := [], harness := (true, "88a56cde0cc5a84264d9c804a25adcaef12b4a0553a1027bb85f13202879ae60"), looks := false }, kinds := [], alts := [], laidByText := true, laidKinds := [.wider], laidTests := true, laidLooks := .later }
def DecodeTablesUptoCardSaid : Prop := Claim7.holds Tryd.pinned (.plain (OpenSpec.upto decodeTablesSpec)) decodeTablesUptoCard

/-- THE SECOND FORM's CARD OF 'mezzaninelaw09.DecodeBack'. -/
def decodeBackUptoCard : Claim7 := { stood := { row := decodeBackUptoRow, standIns := [], harness := (true, "88a56cde0cc5a84264d9c804a25adcaef12b4a0553a1027bb85f13202879ae60"), looks := false }, kinds := [], alts := [], laidByText := true, laidKinds := [.wider], laidTests := true, laidLooks := .later }
def DecodeBackUptoCardSaid : Prop := Claim7.holds Tryd.pinned (.plain (OpenSpec.upto decodeBackSpec)) decodeBackUptoCard

/-- THE SECOND FORM's CARD OF 'mezzaninelaw09.DecodeNear'. -/
def decodeNearUptoCard : Claim7 := { stood := { row := decodeNearUptoRow, standIns := [], harness := (true, "88a56cde0cc5a84264d9c804a25adcaef12b4a0553a1027bb85f13202879ae60"), looks := false }, kinds := [], alts := [], laidByText := true, laidKinds := [.wider], laidTests := true, laidLooks := .later }
def DecodeNearUptoCardSaid : Prop := Claim7.holds Tryd.pinned (.plain (OpenSpec.upto decodeNearSpec)) decodeNearUptoCard

/-- THE SECOND FORM's CARD OF 'mezzaninelaw09.DecodeKeeps'. -/
def decodeKeepsUptoCard : Claim7 := { stood := { row := decodeKeepsUptoRow, standIns := [], harness := (true, "88a56cde0cc5a84264d9c804a25adcaef12b4a0553a1027bb85f13202879ae60"), looks := false }, kinds := [], alts := [], laidByText := true, laidKinds := [.wider], laidTests := true, laidLooks := .later }
def DecodeKeepsUptoCardSaid : Prop := Claim7.holds Tryd.pinned (.plain (OpenSpec.upto decodeKeepsSpec)) decodeKeepsUptoCard
end Rows
end Go.Proofs.YtehlihhnkojjeaaDoor
