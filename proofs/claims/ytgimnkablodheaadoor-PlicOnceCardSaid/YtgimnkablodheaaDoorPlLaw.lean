/- Layer 5's laws: a plic that the law made itself; contracts by literal states. -/
import Derived.Test.YtgimnkablodheaaDoorPlBoth
namespace Go.Proofs.YtgimnkablodheaaDoor
open Go.RowKit
set_option linter.unusedVariables false

section
variable {P : Program} {ops : Array Oper} {rest : List Oper} {o : Oper} {a : Act} {w : World} {Q : Exit → Act → World → Prop}
theorem wpList_load_rowG (hw : Region.wanted o (yielded ops a.tmps) = true) (ty : TypeId) (x : Operand) (ho : o.op = .load ty x)
    (g : Nat) (hx : a.eval x = .pointer (some ⟨g, 0, none⟩)) (t : TypeId) (cs : Array Value) (fr : Nat × Nat) (d : TypeDesc) (hg : w.heap[g]? = some (.cells cs t fr))
    (hu : P.underlying ty = some d) (hd : (match d with | .struct _ | .array _ _ => true | _ => false) = true) (hi : (P.info? ty).map (·.size) = some cs.size)
    (h : wpList P ops Q rest (a.put o.dst (.agg cs)) w) : wpList P ops Q (o :: rest) a w := by
  simp only [wpList, hw, if_true]
  exact .inl (wp_load_row ty x ho g hx t cs fr d hg hu hd hi h)
end
theorem info_row (t : PS) : (Tryd.prog.info? 27).map (·.size) = some (varr 39 (cellQ t)).size := size_progP.trans (by rw [varr_size])
theorem info_refRow (t : PS) : (Tryd.prog.info? 45).map (·.size) = some (varr 194 (cellR t)).size := size_refP.trans (by rw [varr_size])
theorem cellQ_one (t : PS) (i : Nat) : (cellQ t i).oneCell' = true := by
  unfold cellQ
  split; rfl
  split; rfl
  split; rfl
  split; rfl
  split; rfl
  rfl
theorem rowQ_one (t : PS) : (varr 39 (cellQ t)).all (·.oneCell') = true := varr_one (cellQ_one t)
theorem cellR_one (t : PS) (i : Nat) : (cellR t i).oneCell' = true := by
  unfold cellR
  split
  · generalize i % 6 = j
    match j with
    | 0 => rfl
    | 1 => rfl
    | 2 => rfl
    | 3 => rfl
    | 4 => rfl
    | _ + 5 => rfl
  · rfl
theorem rowR_one (t : PS) : (varr 194 (cellR t)).all (·.oneCell') = true := varr_one (cellR_one t)
theorem rowQ_39 (t : PS) : 39 = (varr 39 (cellQ t)).size := (varr_size _ _).symm
theorem new_is (w : World) : Calls Tryd.prog 8 #[] w fun e w' => e = .returned (.agg (varr 39 (cellQ p0))) ∧ Below w.heap.size w w' := new_any w
/-- What is stored into a new block. -/
theorem prog_made (w : World) (z : Array Value) {t : PS} (ok : t.ok) : ProgP ((w.alloc (.cells z 27)).setRow w.heap.size (varr 39 (cellQ t))) w.heap.size t :=
  ⟨setRow_heap _ _ _ _ _ _ (heap_alloc_new w _), ok⟩
theorem ref_made (w : World) (z : Array Value) (t : PS) : RefP ((w.alloc (.cells z 45)).setRow w.heap.size (varr 194 (cellR t))) w.heap.size t :=
  setRow_heap _ _ _ _ _ _ (heap_alloc_new w _)
theorem below_made {B : Nat} {a w : World} (h : Below B a w) (hB : B ≤ w.heap.size) (z : Array Value) (T : TypeId) (cs : Array Value) : Below B a ((w.alloc (.cells z T)).setRow w.heap.size cs) :=
  below_setRow (h.alloc hB _) hB _
/-- A plic of the law's own: its block is new since the law began. -/
structure OwnQ (w0 w : World) (b : Nat) (t : PS) : Prop where
  bel : Below w0.heap.size w0 w
  tab0 : Tab w0
  ge : w0.heap.size ≤ b
  pc : ProgP w b t
theorem OwnQ.tab {w0 w : World} {b : Nat} {t : PS} (h : OwnQ w0 w b t) : Tab w := h.tab0.below h.bel
theorem OwnQ.below {w0 w w' : World} {b : Nat} {t : PS} (h : OwnQ w0 w b t) (k : Below w.heap.size w w') : OwnQ w0 w' b t := ⟨h.bel.trans (k.mono h.bel.size), h.tab0, h.ge, h.pc.below k⟩
theorem OwnQ.turn {w0 w w' : World} {b : Nat} {t t' : PS} (h : OwnQ w0 w b t) (k : Only (fun i => i = b) w w') (hp : ProgP w' b t') : OwnQ w0 w' b t' :=
  ⟨Below.thenOnly h.bel k (fun i hi => hi ▸ h.ge) h.bel.size, h.tab0, h.ge, hp⟩
theorem OwnQ.aside {w0 w w' : World} {b : Nat} {t : PS} {S : Nat → Prop} (h : OwnQ w0 w b t) (k : Only S w w') (hS : ∀ i, S i → w0.heap.size ≤ i) (hb : ¬ S b) : OwnQ w0 w' b t :=
  ⟨Below.thenOnly h.bel k hS h.bel.size, h.tab0, h.ge, h.pc.keeps k hb⟩
theorem OwnQ.ok {w0 w : World} {b : Nat} {t : PS} (h : OwnQ w0 w b t) : t.ok := h.pc.2
theorem OwnQ.row {w0 w : World} {b : Nat} {t : PS} (h : OwnQ w0 w b t) : w.heap[b]? = some (.cells (varr 39 (cellQ t)) 27 (0, 0)) := h.pc.1
theorem OwnQ.made {w0 w : World} {t : PS} (h : Below w0.heap.size w0 w) (ht : Tab w0) (z : Array Value) (ok : t.ok) : OwnQ w0 ((w.alloc (.cells z 27)).setRow w.heap.size (varr 39 (cellQ t))) w.heap.size t :=
  ⟨below_made h h.size _ _ _, ht, h.size, prog_made w z ok⟩
theorem write_is (w : World) (b : Nat) (t t' : PS) (off n v : Int) (r : Bool) (h : ProgP w b t) (ht : Tab w) (ho : In64 off) (hv : In64 v) (e : wrT t (plcK off n) v = t') (hr : okP (plcK off n) = r) :
    Calls Tryd.prog 9 #[.pointer (some ⟨b, 0, none⟩), .int .u64 off, .int .i64 n, .int .u64 v] w (ProgEnd w b (.bool r) t') := by
  subst e hr; exact write_any w b t h ht off n v ho hv
theorem read_is (w : World) (b : Nat) (t t' : PS) (off n X : Int) (r : Bool) (h : ProgP w b t) (ht : Tab w) (ho : In64 off) (e : rdT t (plcK off n) = t') (hX : rdX t (plcK off n) = X) (hr : okP (plcK off n) = r) :
    Calls Tryd.prog 12 #[.pointer (some ⟨b, 0, none⟩), .int .u64 off, .int .i64 n] w (ProgEnd w b (.tuple #[.int .u64 X, .bool r]) t') := by
  subst e hX hr; exact read_any w b t h ht off n ho
theorem level_is (w : World) (b : Nat) (t t' : PS) (s : Int) (u r : Bool) (h : ProgP w b t) (e : levelP t s u = t') (hr : isS s = r) :
    Calls Tryd.prog 10 #[.pointer (some ⟨b, 0, none⟩), .int .i64 s, .bool u] w (ProgEnd w b (.bool r) t') := by
  subst e hr; exact level_any w b t s u h
theorem line_is (w : World) (t : PS) (ok : t.ok) (c : Int) (r : Bool) (hr : lineT t c = r) : Calls Tryd.prog 11 #[.agg (varr 39 (cellQ t)), .int .i64 c] w fun e w' => e = .returned (.bool r) ∧ Below w.heap.size w w' := by
  subst hr; exact line_any w t ok c
theorem best_is (w : World) (t : PS) (ok : t.ok) (c : Int) (k : Nat) (hk : bestC t c = k) : Calls Tryd.prog 13 #[.agg (varr 39 (cellQ t)), .int .i64 c] w fun e w' => e = .returned (.int .i64 k) ∧ Below w.heap.size w w' := by
  subst hk; exact best_any w t ok c
theorem up_is (w : World) (t : PS) (ok : t.ok) (s : Int) (r : Bool) (hr : upT t s = r) : Calls Tryd.prog 18 #[.agg (varr 39 (cellQ t)), .int .i64 s] w fun e w' => e = .returned (.bool r) ∧ Below w.heap.size w w' := by
  subst hr; exact up_any w t ok s

end Go.Proofs.YtgimnkablodheaaDoor
