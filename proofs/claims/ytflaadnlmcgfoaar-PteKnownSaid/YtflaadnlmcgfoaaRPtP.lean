/- Layer 15: the document's Index, Pa, Faults (written by gen_ptp.py by walkt.py). -/
import Derived.Test.YtflaadnlmcgfoaaRPtA
namespace Go.Proofs.YtflaadnlmcgfoaaR
open Go.RowKit
set_option linter.unusedVariables false
set_option maxRecDepth 100000

section

variable {w : World} {o : Oper} {a : Act} {l : List (Nat × Value)} {n : Nat}

theorem R_extrT (hA : FrA l n a) {x : Operand} {i : Nat} (ho : o.op = .extract x i) {vs : Array Value} {v : Value} (hx : evL l x = some (.tuple vs)) (hv : vs[i]? = some v) (w : World) : (execOp a.eval o).run Try.prog w = .ok (.value v) w := by
  unfold execOp; simp only [ho, hA.ev hx]; simp [go_sem, Instr.extract, hv]

theorem R_fieldT (hA : FrA l n a) {T : TypeId} {x : Operand} {i : Nat} (ho : o.op = .field T x i) {u v : Value} (hx : evL l x = some u) (hv : ∀ w, (Instr.field T u i).run Try.prog w = .ok v w) (w : World) : (execOp a.eval o).run Try.prog w = .ok (.value v) w := by
  unfold execOp; simp only [ho, hA.ev hx, Sem.run_bind, hv, Result.andThen_ok, Sem.run_pure]

theorem ret_threeF {fn : Func} {R : Ending → World → Prop} {i j k : Nat} {u v x : Value} (hr : fn.results = #[.tmp i, .tmp j, .tmp k]) (hA : FrA l n a) (hu : l.lookup i = some u) (hv : l.lookup j = some v) (hx : l.lookup k = some x) (hR : R (.returned (.tuple #[u, v, x])) w) : bodyPost Try.prog fn R .ret a w := by
  refine bodyPost_ret (v := .tuple #[u, v, x]) ?_ hA.df hR
  have e1 : a.tmps.getD i undef = u := hA.get _ _ hu
  have e2 : a.tmps.getD j undef = v := hA.get _ _ hv
  have e3 : a.tmps.getD k undef = x := hA.get _ _ hx
  rw [Array.getD_eq_getD_getElem?] at e1 e2 e3
  simp [results, hr, go_sem, e1, e2, e3]

end

theorem ent_page (x : Int) (w : World) : (Instr.field 33 (entV x) 8).run Try.prog w = .ok (.int .u64 (pageZ x)) w := by kernel_rfl

/-- The causes of an access: of a fetch, of a store, of all others. -/
def causeW (s : WS) (f st l : Int) : Int := if s.kind == 2 then f else if s.kind == 1 then st else l

theorem size_pos (lv : Int) : 0 < sizeZ lv ∧ sizeZ lv < 1000000 := by rcases size_is lv with q | q | q <;> rw [q] <;> decide

theorem n_is (lv : Int) : 4096 * sizeZ lv = 4096 ∨ 4096 * sizeZ lv = 2097152 ∨ 4096 * sizeZ lv = 1073741824 := by rcases size_is lv with q | q | q <;> rw [q] <;> decide

theorem quo_in {x lv : Int} (hx : In64 x) : 0 ≤ pageZ x * 4096 / (4096 * sizeZ lv) * (4096 * sizeZ lv) ∧ pageZ x * 4096 / (4096 * sizeZ lv) * (4096 * sizeZ lv) < 72057594037927936 := by
  have := page_lt hx
  rcases n_is lv with q | q | q <;> rw [q] <;> omega

theorem rem_in {y lv : Int} (hy : In64 y) : 0 ≤ y % (4096 * sizeZ lv) ∧ y % (4096 * sizeZ lv) < 1073741824 := by
  rcases n_is lv with q | q | q <;> rw [q] <;> omega

end Go.Proofs.YtflaadnlmcgfoaaR
