/- Walks with the frame a variable: laws: guarded operations in regions that draw; equality of harts. -/
import Derived.Test.YtkfhpmleelmcfaaWk3
import Derived.Test.YtkfhpmleelmcfaaHaEq
namespace Go.Proofs.Ytkfhpmleelmcfaa
open Go.RowKit
set_option linter.unusedVariables false
set_option maxRecDepth 100000

section

variable {ops : Array Oper} {md : Region.Mode} {Q : Exit → Act → World → Prop} {S : World → Prop} {l : List (Nat × Value)} {n : Nat} {fuel : Nat} {listed : Array Bool} {a : Act} {w : World}

theorem takeFg {i : Nat} {oi : Oper} {v : Value} {j dj : Nat} {want : Bool} (hA : FrA l n a) (d : Nat) (hi : ops[i]? = some oi) (hd : oi.dst = some d) (hdn : d < n) (hg : oi.guard = some (j, want)) (hdj : ((ops[j]?).bind (·.dst)) = some dj) (hq : l.lookup dj = some (.bool want))
    (hs : Region.noSelect ops = true) (hf : Region.free md ops listed i = true) (hr : (Region.ready md ops listed).contains i = true)
    (hQ : ∀ c a w, Q (.panic c) (a.put (some d) v) w → Q (.panic c) a w) (hS : S w) (hy : ∀ w, S w → (execOp a.eval oi).run Try.prog w = .ok (.value v) w)
    (h : ∀ a', FrA ((d, v) :: l) n a' → wpAnyH Try.prog md ops Q S fuel (listed.setIfInBounds i true) a' w) : wpAnyH Try.prog md ops Q S (fuel + 1) listed a w :=
  takeD (some d) hi hd hs hf hr hQ (by rw [wanted_g hA hg hdj hq]; simp) hS hy (h _ (hA.put hdn v))

theorem skipFg {i : Nat} {oi : Oper} {j dj : Nat} {want : Bool} (hA : FrA l n a) (d : Nat) (hi : ops[i]? = some oi) (hd : oi.dst = some d) (hdn : d < n) (hg : oi.guard = some (j, want)) (hdj : ((ops[j]?).bind (·.dst)) = some dj) (hq : l.lookup dj = some (.bool !want))
    (hs : Region.noSelect ops = true) (hf : Region.free md ops listed i = true) (hr : (Region.ready md ops listed).contains i = true)
    (hQ : ∀ c a w, Q (.panic c) (a.put (some d) undef) w → Q (.panic c) a w) (hS : S w)
    (h : ∀ a', FrA ((d, undef) :: l) n a' → wpAnyH Try.prog md ops Q S fuel (listed.setIfInBounds i true) a' w) : wpAnyH Try.prog md ops Q S (fuel + 1) listed a w :=
  skipD (some d) hi hd hs hf hr hQ (by rw [wanted_g hA hg hdj hq]; cases want <;> rfl) hS (h _ (hA.put hdn undef))

theorem ready_gcall {i f d : Nat} {xs : Array Operand} {ts : Array TypeId} {ty : TypeId} {ps : String} {af : Array Edge} {j dj : Nat} {want : Bool} {v : Value} {args : Array Value} {S' : World → Prop} {rs : List Nat} (hA : FrA l n a) (hdn : d < n)
    (hi : ops[i]? = some { dst := some d, op := .call { callee := .value (.func f), args := xs, argTypes := ts }, type := ty, pos := ps, after := af, guard := some (j, want) }) (hdj : ((ops[j]?).bind (·.dst)) = some dj) (hq : l.lookup dj = some (.bool want))
    (hcf : ∀ vs w, (callFunc f vs).run Try.prog w = .ok (.enter f vs) w) (hargs : xs.map a.eval = args) (hc : Calls Try.prog f args w fun e w' => e = .returned v ∧ S' w') (hSS : ∀ w', S' w' → S w')
    (h : ∀ w', S' w' → ∀ a', FrA ((d, v) :: l) n a' → wpAnyH Try.prog md ops Q S fuel (listed.setIfInBounds i true) a' w') (hrs : AllReadyH Try.prog md ops Q S fuel listed a w rs) : AllReadyH Try.prog md ops Q S fuel listed a w (i :: rs) :=
  AllReadyH.cons hi (fun K hK => by
    rw [wanted_g hA rfl hdj hq, if_pos (by simp)]
    have e1 : execOp a.eval { dst := some d, op := .call { callee := .value (.func f), args := xs, argTypes := ts }, type := ty, pos := ps, after := af, guard := some (j, want) } = callFunc f (#[] ++ xs.map a.eval ++ #[]) := rfl
    unfold Oper.wp
    rw [e1, hargs, Array.empty_append, Array.append_empty, hcf, Oper.upon_enter]
    refine hc.mono fun e w'' hh => ?_
    obtain ⟨rfl, hs⟩ := hh
    exact hK.out _ _ (hSS _ hs) (fun _ => h _ hs _ (hA.put hdn v))) hrs

end

section

variable {Q : Exit → Act → World → Prop} {w : World} {ops : Array Oper} {rest : List Oper} {o : Oper} {a : Act} {l : List (Nat × Value)} {n d : Nat}

theorem args0 : (#[] : Array Operand).map a.eval = #[] := by simp

theorem args4 (hA : FrA l n a) {x y z q : Operand} {u v p r : Value} (hx : evL l x = some u) (hy : evL l y = some v) (hz : evL l z = some p) (hq : evL l q = some r) : #[x, y, z, q].map a.eval = #[u, v, p, r] := by simp only [List.map_toArray, List.map_cons, List.map_nil, hA.ev hx, hA.ev hy, hA.ev hz, hA.ev hq]

theorem W_gcallB {f : Nat} {xs : Array Operand} {ts : Array TypeId} {ty : TypeId} {ps : String} {af : Array Edge} {j dj : Nat} {want : Bool} (hA : FrA l n a) (hdj : ((ops[j]?).bind (·.dst)) = some dj) (hq : l.lookup dj = some (.bool want)) (hdn : d < n) {args : Array Value} {v : Value} {S : World → Prop} (hcf : ∀ vs w, (callFunc f vs).run Try.prog w = .ok (.enter f vs) w) (hargs : xs.map a.eval = args)
    (hc : Calls Try.prog f args w fun e w' => e = .returned v ∧ S w') (h : ∀ w', S w' → ∀ a', FrA ((d, v) :: l) n a' → wpList Try.prog ops Q rest a' w') :
    wpList Try.prog ops Q ({ dst := some d, op := .call { callee := .value (.func f), args := xs, argTypes := ts }, type := ty, pos := ps, after := af, guard := some (j, want) } :: rest) a w := W_gcall hA hdj hq hdn hcf hargs hc h

theorem R_eqlUT (hA : FrA l n a) {x y : Operand} (ho : o.op = .binOp .eql 22 x y 22) {u v : Int} (hx : evL l x = some (.int .u64 u)) (hy : evL l y = some (.int .u64 v)) (q : Bool) (he : (u == v) = q) (w : World) : (execOp a.eval o).run Try.prog w = .ok (.value (.bool q)) w := by
  subst he; exact R_eqlU hA ho hx hy w

theorem R_neqUT (hA : FrA l n a) {x y : Operand} (ho : o.op = .binOp .neq 22 x y 22) {u v : Int} (hx : evL l x = some (.int .u64 u)) (hy : evL l y = some (.int .u64 v)) (q : Bool) (he : (u != v) = q) (w : World) : (execOp a.eval o).run Try.prog w = .ok (.value (.bool q)) w := by
  subst he; exact R_neqU hA ho hx hy w

theorem R_eqlBT (hA : FrA l n a) {x y : Operand} (ho : o.op = .binOp .eql 4 x y 4) {u v : Bool} (hx : evL l x = some (.bool u)) (hy : evL l y = some (.bool v)) (q : Bool) (he : (u == v) = q) (w : World) : (execOp a.eval o).run Try.prog w = .ok (.value (.bool q)) w := by
  subst he
  unfold execOp; simp only [ho, hA.ev hx, hA.ev hy]; cases u <;> cases v <;> simp [go_sem]

theorem R_neqBT (hA : FrA l n a) {x y : Operand} (ho : o.op = .binOp .neq 4 x y 4) {u v : Bool} (hx : evL l x = some (.bool u)) (hy : evL l y = some (.bool v)) (q : Bool) (he : (u != v) = q) (w : World) : (execOp a.eval o).run Try.prog w = .ok (.value (.bool q)) w := by
  subst he
  unfold execOp; simp only [ho, hA.ev hx, hA.ev hy]; cases u <;> cases v <;> simp [go_sem]

theorem R_eqlH (hA : FrA l n a) {T : TypeId} {x y : Operand} (ho : o.op = .binOp .eql 25 x y T) {t s : HS} (hx : evL l x = some (hartV t)) (hy : evL l y = some (hartV s)) (q : Bool) (he : eqH t s = q) (w : World) : (execOp a.eval o).run Try.prog w = .ok (.value (.bool q)) w := by
  subst he
  exact run_eqlS _ _ x y ho _ _ (hA.ev hx) (hA.ev hy) (by kernel_rfl) _ (eql_hart t s w)

theorem R_neqH (hA : FrA l n a) {T : TypeId} {x y : Operand} (ho : o.op = .binOp .neq 25 x y T) {t s : HS} (hx : evL l x = some (hartV t)) (hy : evL l y = some (hartV s)) (q : Bool) (he : (!eqH t s) = q) (w : World) : (execOp a.eval o).run Try.prog w = .ok (.value (.bool q)) w := by
  subst he
  exact run_neqS _ _ x y ho _ _ (hA.ev hx) (hA.ev hy) (by kernel_rfl) _ (by rw [run_neq_struct, eq_hart]; rfl)

end

end Go.Proofs.Ytkfhpmleelmcfaa
