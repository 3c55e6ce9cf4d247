/- The program's memory of layer 3 keeps all the contracts. -/
import Derived.Test.YtoghdkhlliehoaaJC
namespace Go.Proofs.Ytoghdkhlliehoaa
open Go.RowKit
set_option linter.unusedVariables false
set_option maxRecDepth 100000

def ram : Full where
  M := ProgMem
  lt h i hi := by obtain ⟨mb, pg, hp⟩ := h.parts; exact hp.ok.lt i hi
  bytey h := by obtain ⟨mb, pg, hp⟩ := h.parts; exact hp.bytey
  keeps h o hs := h.keeps o hs
  has x n h hf hx hn := (progHas_any x n h hf hx hn).mono fun e w' ⟨h1, h2⟩ => ⟨h1, 0, h2.symm⟩
  read x n h hf hx hn := progRead_any x n h hf hx hn
  write x n v h hf hx hn hv := progWrite_any x n v h hf hx hn hv
  put x v xs g h hf hx hv hb hs hl hc := progPut_any x v xs h hf hx hv hb hs hl hc
  bytes x n h hf hx hn _ := progBytes_any x n h hf hx hn
  new base size w hb hs := progNew_any base size w hb hs
  getBase h := (progBase_any h).mono fun e w' ⟨h1, h2⟩ => ⟨h1, 0, h2.symm⟩
  getSize h := (progSize_any h).mono fun e w' ⟨h1, h2⟩ => ⟨h1, 0, h2.symm⟩
  twin h hf := progTwin_any h hf
  pages h hf hs := progPages_few h hf hs
  nils := nilSpec
  twinNil w := (progTwin_nil w).mono fun e w' ⟨h1, h2⟩ => ⟨h1, h2 ▸ Below.refl _ _⟩
  pagesNil w := (progPages_nil w).mono fun e w' ⟨h1, h2⟩ => ⟨h2 ▸ Below.refl _ _, none, 0, h1⟩

end Go.Proofs.Ytoghdkhlliehoaa
