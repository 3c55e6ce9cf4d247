/- Layer 4's laws: two clints of the program and two of the document's, apart. -/
import Derived.Test.YtpmlcnhkfnmheaaClLaw
import Derived.Test.YtpmlcnhkfnmheaaClActs
namespace Go.Proofs.Ytpmlcnhkfnmheaa
open Go.RowKit
set_option linter.unusedVariables false

/-- Two clints of the program, two of the document's, all the law's own, apart. -/
structure Four (w0 w : World) (a b c d : Nat) (ta tb tc td : Cl) : Prop where
  bel : Below w0.heap.size w0 w
  ga : w0.heap.size ≤ a
  gb : w0.heap.size ≤ b
  gc : w0.heap.size ≤ c
  gd : w0.heap.size ≤ d
  ab : ¬ a = b
  ac : ¬ a = c
  ad : ¬ a = d
  bc : ¬ b = c
  bd : ¬ b = d
  cd : ¬ c = d
  pa : ProgC w a ta
  pb : ProgC w b tb
  rc : RefC w c tc
  rd : RefC w d td
theorem Four.below {w0 w w' : World} {a b c d : Nat} {ta tb tc td : Cl} (h : Four w0 w a b c d ta tb tc td) (k : Below w.heap.size w w') : Four w0 w' a b c d ta tb tc td :=
  { h with bel := h.bel.trans (k.mono h.bel.size), pa := h.pa.below k, pb := h.pb.below k, rc := h.rc.below k, rd := h.rd.below k }
theorem Four.turnA {w0 w w' : World} {a b c d : Nat} {ta tb tc td t' : Cl} (h : Four w0 w a b c d ta tb tc td) (k : Only (fun i => i = a) w w') (hp : ProgC w' a t') : Four w0 w' a b c d t' tb tc td :=
  { h with bel := Below.thenOnly h.bel k (fun i hi => hi ▸ h.ga) h.bel.size, pa := hp, pb := h.pb.keeps k (fun e => h.ab e.symm), rc := h.rc.keeps k (fun e => h.ac e.symm), rd := h.rd.keeps k (fun e => h.ad e.symm) }
theorem Four.turnB {w0 w w' : World} {a b c d : Nat} {ta tb tc td t' : Cl} (h : Four w0 w a b c d ta tb tc td) (k : Only (fun i => i = b) w w') (hp : ProgC w' b t') : Four w0 w' a b c d ta t' tc td :=
  { h with bel := Below.thenOnly h.bel k (fun i hi => hi ▸ h.gb) h.bel.size, pa := h.pa.keeps k h.ab, pb := hp, rc := h.rc.keeps k (fun e => h.bc e.symm), rd := h.rd.keeps k (fun e => h.bd e.symm) }
theorem Four.turnC {w0 w w' : World} {a b c d : Nat} {ta tb tc td t' : Cl} (h : Four w0 w a b c d ta tb tc td) (k : Only (fun i => i = c) w w') (hp : RefC w' c t') : Four w0 w' a b c d ta tb t' td :=
  { h with bel := Below.thenOnly h.bel k (fun i hi => hi ▸ h.gc) h.bel.size, pa := h.pa.keeps k h.ac, pb := h.pb.keeps k h.bc, rc := hp, rd := h.rd.keeps k (fun e => h.cd e.symm) }
theorem Four.turnD {w0 w w' : World} {a b c d : Nat} {ta tb tc td t' : Cl} (h : Four w0 w a b c d ta tb tc td) (k : Only (fun i => i = d) w w') (hp : RefC w' d t') : Four w0 w' a b c d ta tb tc t' :=
  { h with bel := Below.thenOnly h.bel k (fun i hi => hi ▸ h.gd) h.bel.size, pa := h.pa.keeps k h.ad, pb := h.pb.keeps k h.bd, rc := h.rc.keeps k h.cd, rd := hp }
theorem refNew_is (w : World) : Calls Try.prog 16 #[] w fun e w' => e = .returned (.agg #[.int .u64 0, .int .u64 18446744073709551615, .int .u64 0]) ∧ Below w.heap.size w w' := refNew_any w
def t0 : Cl := ⟨false, 18446744073709551615, 0⟩
theorem t0_ok : t0.ok := by unfold Cl.ok In64 t0; decide
theorem prog_made (w : World) : ProgC (w.alloc (.cells #[.bool false, .int .u64 18446744073709551615, .int .u64 0] 26)) w.heap.size t0 := ⟨heap_alloc_new w _, t0_ok⟩
theorem ref_made (w : World) : RefC (w.alloc (.cells #[.int .u64 0, .int .u64 18446744073709551615, .int .u64 0] 37)) w.heap.size t0 := ⟨heap_alloc_new w _, t0_ok⟩
theorem below_drewN {B : Nat} {a w : World} (h : Below B a w) (n : Nat) : Below B a (w.drewN n) := ⟨h.os, h.tape, h.output, h.size, h.block⟩
theorem sI_inj {s t : Bool} (h : sI s = sI t) : s = t := by cases s <;> cases t <;> simp_all [sI]

end Go.Proofs.Ytpmlcnhkfnmheaa
