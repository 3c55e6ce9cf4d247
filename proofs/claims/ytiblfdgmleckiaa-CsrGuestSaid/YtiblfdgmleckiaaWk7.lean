/- Walks with the frame a variable: slices of ints written out. -/
import Derived.Test.YtiblfdgmleckiaaWk6
import Derived.Great.Walk
namespace Go.Proofs.Ytiblfdgmleckiaa
open Go.RowKit
set_option linter.unusedVariables false
set_option maxRecDepth 100000

def intsR (xs : List Int) : Array Value := (xs.map fun x => Value.int .i64 x).toArray
def RwI (w : World) (b : Nat) (xs : List Int) : Prop := w.heap[b]? = some (.cells (intsR xs) 3 (0, 0))
theorem RwI.lt {w : World} {b : Nat} {xs : List Int} (h : RwI w b xs) : b < w.heap.size := (Array.getElem?_eq_some_iff.1 h).1
theorem RwI.below {w w' : World} {b : Nat} {xs : List Int} (h : RwI w b xs) (o : Below w.heap.size w w') : RwI w' b xs := (o.block b h.lt).trans h
theorem RwI.cell {w : World} {b : Nat} {xs : List Int} (h : RwI w b xs) {i : Nat} {x : Int} (hx : xs[i]? = some x) : w.cell? ⟨b, i, none⟩ = some (.int .i64 x) := by
  rw [cell_of_row w b i _ _ _ h]; unfold intsR; simp [hx]
theorem Tch.rw {b j : Nat} {w w' : World} {xs : List Int} (h : Tch b w w') (hj : RwI w j xs) (hn : ¬ j = b) : RwI w' j xs := (h.oth j hn).trans hj
theorem ag_intS (w : World) : (isAgg 3).run Try.prog w = .ok false w := by kernel_rfl
section
variable {Q : Exit → Act → World → Prop} {w : World} {ops : Array Oper} {rest : List Oper} {o : Oper} {a : Act} {l : List (Nat × Value)} {n d : Nat}
theorem W_bslI (hA : FrA l n a) (hg : o.guard = none) (d : Nat) (hd : o.dst = some d) (hdn : d < n) {len : Nat} {ps : Array (Nat × Operand)} (ho : o.op = .buildSlice 40 len ps) (xs : List Int) (hf : Try.prog.builtSlice 3 len (ps.map fun (i, x) => (i, a.eval x)).toList = some (intsR xs))
    (h : ∀ w' b a', FrA ((d, .slice (some ⟨b, 0, none⟩) len len) :: l) n a' → Below w.heap.size w w' → RwI w' b xs → w.heap.size ≤ b → wpList Try.prog ops Q rest a' w') : wpList Try.prog ops Q (o :: rest) a w :=
  Go.Great.wpList_buildSliceTo hg 40 3 len ps ho w.heap.size rfl (some d) hd Try.underlying40 (intsR xs) hf (h _ _ _ (hA.put hdn _) ((Below.refl _ _).alloc (Nat.le_refl _) _) (heap_alloc_new w _) (Nat.le_refl _))
theorem R_lenS (hA : FrA l n a) {x : Operand} (ho : o.op = .call { callee := .builtin .len, args := #[x], argTypes := #[40] }) {p : Option Addr} {k c : Nat} (hx : evL l x = some (.slice p k c)) (w : World) : (execOp a.eval o).run Try.prog w = .ok (.value (.int .i64 k)) w := by
  unfold execOp
  simp only [ho, resolve, List.map_toArray, List.map_cons, List.map_nil, hA.ev hx, Sem.run_bind, Sem.run_pure, Result.andThen_ok, invoke]
  simp [go_sem, Builtin.len_]
end
end Go.Proofs.Ytiblfdgmleckiaa
