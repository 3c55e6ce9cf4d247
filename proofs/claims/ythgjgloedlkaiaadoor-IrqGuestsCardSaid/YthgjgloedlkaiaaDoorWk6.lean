/- Walks with the frame a variable: a function value made, and called. -/
import Derived.Test.YthgjgloedlkaiaaDoorWk5
namespace Go.Proofs.YthgjgloedlkaiaaDoor
open Go.RowKit
set_option linter.unusedVariables false
set_option maxRecDepth 100000

section

variable {Q : Exit → Act → World → Prop} {w : World} {ops : Array Oper} {rest : List Oper} {o : Oper} {a : Act} {l : List (Nat × Value)} {n d : Nat}

theorem R_makeFunc2 (hA : FrA l n a) {fn : Fn} {x y : Operand} (ho : o.op = .makeFunc fn #[] #[x, y]) {u v : Value} (hx : evL l x = some u) (hy : evL l y = some v) (w : World) : (execOp a.eval o).run Tryd.prog w = .ok (.value (.func fn #[] #[u, v])) w := by
  unfold execOp; simp only [ho, Instr.makeFunc, List.map_toArray, List.map_cons, List.map_nil, hA.ev hx, hA.ev hy]; rfl

theorem run_callD {f s : Nat} {xs : Array Operand} {ts : Array TypeId} {cap args : Array Value} (ho : o.op = .call { callee := .value (.tmp s), args := xs, argTypes := ts }) (hA : FrA l n a) (hs : evL l (.tmp s) = some (.func (.func f) #[] cap)) (hargs : xs.map a.eval = args)
    (hcf : ∀ vs w, (callFunc f vs).run Tryd.prog w = .ok (.enter f vs) w) (w : World) : (execOp a.eval o).run Tryd.prog w = .ok (.enter f (args ++ cap)) w := by
  unfold execOp
  simp only [ho, resolve, hA.ev hs, Deferred.ofValue, hargs, Sem.run_bind, Sem.run_pure, Result.andThen_ok, Array.empty_append, invoke]
  exact hcf _ _

theorem W_callD {f s : Nat} {xs : Array Operand} {ts : Array TypeId} {cap args : Array Value} {v : Value} {S : World → Prop} (hA : FrA l n a) (hg : o.guard = none) (hd : o.dst = some d) (hdn : d < n) (ho : o.op = .call { callee := .value (.tmp s), args := xs, argTypes := ts }) (hs : evL l (.tmp s) = some (.func (.func f) #[] cap)) (hargs : xs.map a.eval = args)
    (hcf : ∀ vs w, (callFunc f vs).run Tryd.prog w = .ok (.enter f vs) w) (hc : Calls Tryd.prog f (args ++ cap) w fun e w' => e = .returned v ∧ S w') (h : ∀ w', S w' → ∀ a', FrA ((d, v) :: l) n a' → wpList Tryd.prog ops Q rest a' w') : wpList Tryd.prog ops Q (o :: rest) a w := by
  refine wpList_plain hg fun K hK => ?_
  unfold Oper.wp
  rw [run_callD ho hA hs hargs hcf, Oper.upon_enter]
  refine hc.mono fun e w'' hh => ?_
  obtain ⟨rfl, hs⟩ := hh
  rw [hd]
  exact hK _ _ (h _ hs _ (hA.put hdn v))

theorem W_gcallD {f s j dj : Nat} {want : Bool} {xs : Array Operand} {ts : Array TypeId} {cap args : Array Value} {v : Value} {S : World → Prop} (hA : FrA l n a) (hg : o.guard = some (j, want)) (hdj : ((ops[j]?).bind (·.dst)) = some dj) (hq : l.lookup dj = some (.bool want)) (hd : o.dst = some d) (hdn : d < n) (ho : o.op = .call { callee := .value (.tmp s), args := xs, argTypes := ts }) (hs : evL l (.tmp s) = some (.func (.func f) #[] cap)) (hargs : xs.map a.eval = args)
    (hcf : ∀ vs w, (callFunc f vs).run Tryd.prog w = .ok (.enter f vs) w) (hc : Calls Tryd.prog f (args ++ cap) w fun e w' => e = .returned v ∧ S w') (h : ∀ w', S w' → ∀ a', FrA ((d, v) :: l) n a' → wpList Tryd.prog ops Q rest a' w') : wpList Tryd.prog ops Q (o :: rest) a w := by
  refine wpList_step fun K hK => ?_
  rw [wanted_g hA hg hdj hq, if_pos (by simp)]
  unfold Oper.wp
  rw [run_callD ho hA hs hargs hcf, Oper.upon_enter]
  refine hc.mono fun e w'' hh => ?_
  obtain ⟨rfl, hs⟩ := hh
  rw [hd]
  exact hK _ _ (h _ hs _ (hA.put hdn v))

end

end Go.Proofs.YthgjgloedlkaiaaDoor
