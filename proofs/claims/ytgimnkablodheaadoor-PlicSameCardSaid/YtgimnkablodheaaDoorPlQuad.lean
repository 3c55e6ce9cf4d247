/- Layer 5's laws: two pairs of plics, apart. -/
import Derived.Test.YtgimnkablodheaaDoorPlZero
import Derived.Test.YtgimnkablodheaaDoorPlEq
import Derived.Deep.Cut
namespace Go.Proofs.YtgimnkablodheaaDoor
open Go.RowKit
set_option linter.unusedVariables false

section
variable {P : Program}
theorem yield_eql {op : Oper} {a : Act} {w : World} (t ty : TypeId) (x y : Operand) (ho : op.op = .binOp .eql t x y ty) (xs ys : Array Value) (hx : a.eval x = .agg xs) (hy : a.eval y = .agg ys) (hm : P.eqGuardType P.depth t = false) (r : Bool)
    (hr : (binOp .eql t (.agg xs) (.agg ys)).run P w = .ok (.bool r) w) : (execOp a.eval op).run P w = .ok (.value (.bool r)) w := by
  unfold execOp
  simp only [ho, hx, hy, Sem.run_bind, run_eqGuard_agg w .eql t x y _ _ hm, hr, Result.andThen_ok, Sem.run_pure]
end
theorem prog_madeZ (w : World) (z : Array Value) : ProgP ((w.alloc (.cells z 27)).setRow w.heap.size zerosQ) w.heap.size p0 := by rw [← varr_p0]; exact prog_made w z p0_ok
theorem ref_madeZ (w : World) (z : Array Value) : RefP ((w.alloc (.cells z 45)).setRow w.heap.size zerosR) w.heap.size p0 := by rw [← varr_r0]; exact ref_made w z p0
/-- Two plics of the program, two of the document's, all the law's own, apart. -/
structure Quad (w0 w : World) (a b c d : Nat) (t u : PS) : Prop where
  bel : Below w0.heap.size w0 w
  tab0 : Tab w0
  ga : w0.heap.size ≤ a
  ab : a < b
  bc : b < c
  cd : c < d
  pa : ProgP w a t
  pb : ProgP w b u
  rc : RefP w c t
  rd : RefP w d u
theorem Quad.tab {w0 w : World} {a b c d : Nat} {t u : PS} (h : Quad w0 w a b c d t u) : Tab w := h.tab0.below h.bel
theorem Quad.below {w0 w w' : World} {a b c d : Nat} {t u : PS} (h : Quad w0 w a b c d t u) (k : Below w.heap.size w w') : Quad w0 w' a b c d t u :=
  { h with bel := h.bel.trans (k.mono h.bel.size), pa := h.pa.below k, pb := h.pb.below k, rc := h.rc.below k, rd := h.rd.below k }
theorem Quad.one {w0 w w' : World} {a b c d : Nat} {t u t' : PS} (h : Quad w0 w a b c d t u) (k : Only (fun i => i = a ∨ i = c) w w') (hp : ProgP w' a t') (hr : RefP w' c t') : Quad w0 w' a b c d t' u :=
  have hab := h.ab
  have hbc := h.bc
  have hcd := h.cd
  { h with bel := Below.thenOnly h.bel k (fun i hi => by have := h.ga; omega) h.bel.size, pa := hp, pb := h.pb.keeps k (by omega), rc := hr, rd := h.rd.keeps k (by omega) }
theorem Quad.two {w0 w w' : World} {a b c d : Nat} {t u u' : PS} (h : Quad w0 w a b c d t u) (k : Only (fun i => i = b ∨ i = d) w w') (hp : ProgP w' b u') (hr : RefP w' d u') : Quad w0 w' a b c d t u' :=
  have hab := h.ab
  have hbc := h.bc
  have hcd := h.cd
  { h with bel := Below.thenOnly h.bel k (fun i hi => by have := h.ga; omega) h.bel.size, pa := h.pa.keeps k (by omega), pb := hp, rc := h.rc.keeps k (by omega), rd := hr }

end Go.Proofs.YtgimnkablodheaaDoor
