/- Layer 5's laws: a plic of the program and one of the document's, apart. -/
import Derived.Test.YtgimnkablodheaaDoorPlQuad
import Derived.Deep.CutRange
namespace Go.Proofs.YtgimnkablodheaaDoor
open Go.RowKit
set_option linter.unusedVariables false

/-- A plic of the program and one of the document's, both the law's own, of one state. -/
structure Pair (w0 w : World) (c d : Nat) (t : PS) : Prop where
  bel : Below w0.heap.size w0 w
  tab0 : Tab w0
  gc : w0.heap.size ≤ c
  cd : c < d
  pc : ProgP w c t
  rd : RefP w d t
theorem Pair.tab {w0 w : World} {c d : Nat} {t : PS} (h : Pair w0 w c d t) : Tab w := h.tab0.below h.bel
theorem Pair.ok {w0 w : World} {c d : Nat} {t : PS} (h : Pair w0 w c d t) : t.ok := h.pc.2
theorem Pair.below {w0 w w' : World} {c d : Nat} {t : PS} (h : Pair w0 w c d t) (k : Below w.heap.size w w') : Pair w0 w' c d t :=
  { h with bel := h.bel.trans (k.mono h.bel.size), pc := h.pc.below k, rd := h.rd.below k }
theorem Pair.turn {w0 w w' : World} {c d : Nat} {t t' : PS} (h : Pair w0 w c d t) (k : Only (fun i => i = c ∨ i = d) w w') (hp : ProgP w' c t') (hr : RefP w' d t') : Pair w0 w' c d t' :=
  have hcd := h.cd
  { h with bel := Below.thenOnly h.bel k (fun i hi => by have := h.gc; omega) h.bel.size, pc := hp, rd := hr }
theorem Pair.aside {w0 w w' : World} {c d : Nat} {t : PS} {S : Nat → Prop} (h : Pair w0 w c d t) (k : Only S w w') (hS : ∀ i, S i → w0.heap.size ≤ i) (hc : ¬ S c) (hd : ¬ S d) : Pair w0 w' c d t :=
  { h with bel := Below.thenOnly h.bel k hS h.bel.size, pc := h.pc.keeps k hc, rd := h.rd.keeps k hd }
theorem refUp_is (w : World) (t : PS) (s : Int) : Calls Tryd.prog 19 #[.agg (varr 194 (cellR t)), .int .i64 s] w fun e w' => e = .returned (.bool (upT t s)) ∧ Below w.heap.size w w' := refUp_any w t s
theorem refBest_is (w : World) (t : PS) (c : Int) : Calls Tryd.prog 16 #[.agg (varr 194 (cellR t)), .int .i64 c] w fun e w' => e = .returned (.int .i64 (bestC t c)) ∧ Below w.heap.size w w' := refBest_any w t c
theorem refLine_is (w : World) (t : PS) (c : Int) : Calls Tryd.prog 17 #[.agg (varr 194 (cellR t)), .int .i64 c] w fun e w' => e = .returned (.bool (lineT t c)) ∧ Below w.heap.size w w' := refLine_any w t c

end Go.Proofs.YtgimnkablodheaaDoor
