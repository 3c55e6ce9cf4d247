/- Layer 4's laws: a clint of the program and one of the document's, apart. -/
import Derived.Test.YtpmlcnhkfnmheaaClFour
import Derived.Deep.Cut
namespace Go.Proofs.Ytpmlcnhkfnmheaa
open Go.RowKit
set_option linter.unusedVariables false

/-- A clint of the program and one of the document's, both the law's own, apart. -/
structure Pr (w0 w : World) (c d : Nat) (t u : Cl) : Prop where
  bel : Below w0.heap.size w0 w
  gc : w0.heap.size ≤ c
  gd : w0.heap.size ≤ d
  cd : ¬ c = d
  pc : ProgC w c t
  rd : RefC w d u
theorem Pr.below {w0 w w' : World} {c d : Nat} {t u : Cl} (h : Pr w0 w c d t u) (k : Below w.heap.size w w') : Pr w0 w' c d t u :=
  { h with bel := h.bel.trans (k.mono h.bel.size), pc := h.pc.below k, rd := h.rd.below k }
theorem Pr.turnC {w0 w w' : World} {c d : Nat} {t u t' : Cl} (h : Pr w0 w c d t u) (k : Only (fun i => i = c) w w') (hp : ProgC w' c t') : Pr w0 w' c d t' u :=
  { h with bel := Below.thenOnly h.bel k (fun i hi => hi ▸ h.gc) h.bel.size, pc := hp, rd := h.rd.keeps k (fun e => h.cd e.symm) }
theorem Pr.turnD {w0 w w' : World} {c d : Nat} {t u t' : Cl} (h : Pr w0 w c d t u) (k : Only (fun i => i = d) w w') (hp : RefC w' d t') : Pr w0 w' c d t t' :=
  { h with bel := Below.thenOnly h.bel k (fun i hi => hi ▸ h.gd) h.bel.size, pc := h.pc.keeps k h.cd, rd := hp }
theorem Pr.aside {w0 w w' : World} {c d : Nat} {t u : Cl} {S : Nat → Prop} (h : Pr w0 w c d t u) (k : Only S w w') (hS : ∀ i, S i → w0.heap.size ≤ i) (hc : ¬ S c) (hd : ¬ S d) : Pr w0 w' c d t u :=
  { h with bel := Below.thenOnly h.bel k hS h.bel.size, pc := h.pc.keeps k hc, rd := h.rd.keeps k hd }
theorem refMsip_is (w : World) (s : Bool) (c n : Int) : Calls Try.prog 20 #[.agg #[.int .u64 (sI s), .int .u64 c, .int .u64 n]] w fun e w' => e = .returned (.bool s) ∧ Below w.heap.size w w' := refMsip_any w ⟨s, c, n⟩
theorem refMtip_is (w : World) (s : Bool) (c n : Int) (r : Bool) (h : mtC ⟨s, c, n⟩ = r) : Calls Try.prog 21 #[.agg #[.int .u64 (sI s), .int .u64 c, .int .u64 n]] w fun e w' => e = .returned (.bool r) ∧ Below w.heap.size w w' := by
  subst h; exact refMtip_any w ⟨s, c, n⟩
theorem refRead_is (w : World) (s : Bool) (c m off n : Int) (X : Int) (r : Bool) (hok : (⟨s, c, m⟩ : Cl).ok) (hX : rdC ⟨s, c, m⟩ (kindC off n) = X) (hr : okC off n = r) :
    Calls Try.prog 18 #[.agg #[.int .u64 (sI s), .int .u64 c, .int .u64 m], .int .u64 off, .int .i64 n] w fun e w' => e = .returned (.tuple #[.int .u64 X, .bool r]) ∧ Below w.heap.size w w' := by
  subst hX hr; exact refRead_any w ⟨s, c, m⟩ off n hok
def tz : Cl := ⟨false, 0, 0⟩
theorem tz_ok : tz.ok := by unfold Cl.ok In64 tz; decide

end Go.Proofs.Ytpmlcnhkfnmheaa
