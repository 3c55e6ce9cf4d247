/- Walks with the frame a variable: rows of one-cell fields (structs) in blocks: boxed, made, loaded, copied, a cell turned (general). -/
import Derived.Test.YtflaadnlmcgfoaaRWkG
namespace Go.Proofs.YtflaadnlmcgfoaaR
open Go.RowKit
set_option linter.unusedVariables false
set_option maxRecDepth 100000

/-- A row of cells in a block of its own. -/
def RowC (w : World) (b : Nat) (T : TypeId) (cs : Array Value) : Prop := w.heap[b]? = some (.cells cs T (0, 0))
theorem RowC.lt {w : World} {b : Nat} {T : TypeId} {cs : Array Value} (h : RowC w b T cs) : b < w.heap.size := (Array.getElem?_eq_some_iff.1 h).1
theorem RowC.below {w w' : World} {b : Nat} {T : TypeId} {cs : Array Value} (h : RowC w b T cs) (o : Below w.heap.size w w') : RowC w' b T cs := (o.block b h.lt).trans h
theorem Tch.row {b j : Nat} {w w' : World} {T : TypeId} {cs : Array Value} (h : Tch b w w') (hj : RowC w j T cs) (hn : ¬ j = b) : RowC w' j T cs := (h.oth j hn).trans hj
theorem RowC.cell {w : World} {b : Nat} {T : TypeId} {cs : Array Value} (h : RowC w b T cs) (k : Nat) (v : Value) (hv : cs[k]? = some v) : w.cell? ⟨b, k, none⟩ = some v := by
  rw [cell_of_row w b k _ _ _ h]; exact hv
theorem RowC.drew {w : World} {b : Nat} {T : TypeId} {cs : Array Value} (h : RowC w b T cs) : RowC w.drew b T cs := h.below ((Below.refl _ _).drew)
section
variable {Q : Exit → Act → World → Prop} {w : World} {ops : Array Oper} {rest : List Oper} {o : Oper} {a : Act} {l : List (Nat × Value)} {n d : Nat}
theorem W_boxT (hA : FrA l n a) (hg : o.guard = none) (d : Nat) (hd : o.dst = some d) (hdn : d < n) {T : TypeId} {x : Operand} (ho : o.op = .box T x) {cs : Array Value} (hx : evL l x = some (.agg cs))
    (h : ∀ w' b a', FrA ((d, .pointer (some ⟨b, 0, none⟩)) :: l) n a' → Below w.heap.size w w' → RowC w' b T cs → w.heap.size ≤ b → wpList Try.prog ops Q rest a' w') : wpList Try.prog ops Q (o :: rest) a w :=
  W_val hA hg d hd hdn _ _ (R_box hA ho hx w) fun a hA => h _ _ a hA ((Below.refl _ _).alloc (Nat.le_refl _) _) (heap_alloc_new w _) (Nat.le_refl _)
theorem W_allocT (hA : FrA l n a) (hg : o.guard = none) (d : Nat) (hd : o.dst = some d) (hdn : d < n) {T : TypeId} (ho : o.op = .alloc T) {cs : Array Value} (hz : ∀ w, (zeroValue T).run Try.prog w = .ok (.agg cs) w)
    (h : ∀ w' b a', FrA ((d, .pointer (some ⟨b, 0, none⟩)) :: l) n a' → Below w.heap.size w w' → RowC w' b T cs → w.heap.size ≤ b → wpList Try.prog ops Q rest a' w') : wpList Try.prog ops Q (o :: rest) a w :=
  W_val hA hg d hd hdn _ _ (R_alloc hA ho hz w) fun a hA => h _ _ a hA ((Below.refl _ _).alloc (Nat.le_refl _) _) (heap_alloc_new w _) (Nat.le_refl _)
/-- A whole row is stored. -/
theorem W_cpT (hA : FrA l n a) (hg : o.guard = none) (hd : o.dst = none) {T : TypeId} {x y : Operand} (ho : o.op = .store T x y) {b : Nat} {old cs : Array Value} (hx : evL l x = some (.pointer (some ⟨b, 0, none⟩))) (hy : evL l y = some (.agg cs)) (hb : RowC w b T old)
    (hs : (Try.prog.info? T).map (·.size) = some cs.size) (hz : old.size = cs.size) (h1 : cs.all (·.oneCell') = true)
    (h : ∀ w', Tch b w w' → RowC w' b T cs → wpList Try.prog ops Q rest a w') : wpList Try.prog ops Q (o :: rest) a w :=
  W_strow hA hg hd ho hx hy hb hs hz h1 (h _ (Tch.setRow _) (setRow_heap _ _ _ _ _ _ hb))
/-- One cell is stored. -/
theorem W_stT (hA : FrA l n a) (hg : o.guard = none) (hd : o.dst = none) {T : TypeId} {x y : Operand} (ho : o.op = .store T x y) {b k : Nat} {v : Value} (hx : evL l x = some (.pointer (some ⟨b, k, none⟩))) (hy : evL l y = some v) {S : TypeId} {cs : Array Value} (hb : RowC w b S cs)
    (hst : (storeVar T ⟨b, k, none⟩ v).run Try.prog w = .ok () (w.setCell ⟨b, k, none⟩ v)) {cs' : Array Value} (hc : cs.setIfInBounds k v = cs')
    (h : ∀ w', Tch b w w' → RowC w' b S cs' → wpList Try.prog ops Q rest a w') : wpList Try.prog ops Q (o :: rest) a w :=
  W_st hA hg hd ho hx hy hst (h _ (Tch.setCell _) (by subst hc; unfold RowC; rw [heap_setCell_same w b k _ _ _ hb]))
theorem stT_u {b k : Nat} {S : TypeId} {cs : Array Value} (hb : RowC w b S cs) {x : Int} (v : Int) (hc : cs[k]? = some (.int .u64 x)) : (storeVar 23 ⟨b, k, none⟩ (.int .u64 v)).run Try.prog w = .ok () (w.setCell ⟨b, k, none⟩ (.int .u64 v)) := by
  simp [go_sem, storeVar, hb.cell k _ hc, frozen_of_row w b k _ _ hb]
theorem stT_B {b k : Nat} {S : TypeId} {cs : Array Value} (hb : RowC w b S cs) {x : Int} (v : Int) (hc : cs[k]? = some (.int .u8 x)) : (storeVar 5 ⟨b, k, none⟩ (.int .u8 v)).run Try.prog w = .ok () (w.setCell ⟨b, k, none⟩ (.int .u8 v)) := by
  simp [go_sem, storeVar, hb.cell k _ hc, frozen_of_row w b k _ _ hb]
theorem stT_b {b k : Nat} {S : TypeId} {cs : Array Value} (hb : RowC w b S cs) {x : Bool} (v : Bool) (hc : cs[k]? = some (.bool x)) : (storeVar 4 ⟨b, k, none⟩ (.bool v)).run Try.prog w = .ok () (w.setCell ⟨b, k, none⟩ (.bool v)) := by
  simp [go_sem, storeVar, hb.cell k _ hc, frozen_of_row w b k _ _ hb]
theorem stT_i {b k : Nat} {S : TypeId} {cs : Array Value} (hb : RowC w b S cs) {x : Int} (v : Int) (hc : cs[k]? = some (.int .i64 x)) : (storeVar 3 ⟨b, k, none⟩ (.int .i64 v)).run Try.prog w = .ok () (w.setCell ⟨b, k, none⟩ (.int .i64 v)) := by
  simp [go_sem, storeVar, hb.cell k _ hc, frozen_of_row w b k _ _ hb]
theorem ret_rowT {fn : Func} {R : Ending → World → Prop} {j b : Nat} {T : TypeId} {cs : Array Value} {fs : Array Field} (hr : fn.results = #[.cell j T]) (hA : FrA l n a) (hv : l.lookup j = some (.pointer (some ⟨b, 0, none⟩))) (hw : RowC w b T cs)
    (hu : Try.prog.underlying T = some (.struct fs)) (hs : (Try.prog.info? T).map (·.size) = some cs.size) (hR : R (.returned (.agg cs)) w) : bodyPost Try.prog fn R .ret a w :=
  ret_row hr hA hv hw hu hs hR
end
end Go.Proofs.YtflaadnlmcgfoaaR
