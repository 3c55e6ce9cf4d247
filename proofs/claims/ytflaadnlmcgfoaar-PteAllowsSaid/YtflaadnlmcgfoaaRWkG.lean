/- Walks with the frame a variable: general: just one block turned; regions that draw, with calls and guards; shifts, comparisons, conversions (what Wk3, Wk5, Wk9 had besides harts). -/
import Derived.Test.YtflaadnlmcgfoaaRWk2
import Derived.Below
namespace Go.Proofs.YtflaadnlmcgfoaaR
open Go.RowKit
set_option linter.unusedVariables false
set_option maxRecDepth 100000

/-- Of the blocks that were there just b has turned. -/
structure Tch (b : Nat) (w w' : World) : Prop where
  bel : ∀ N, N ≤ b → Below N w w'
  oth : ∀ j, ¬ j = b → w'.heap[j]? = w.heap[j]?
  sz : w'.heap.size = w.heap.size

theorem Tch.setCell {b k : Nat} {w : World} (v : Value) : Tch b w (w.setCell ⟨b, k, none⟩ v) :=
  ⟨fun N hN => (Below.refl _ _).setCell hN v, fun j hj => Below.heap_setCell _ _ _ _ hj, by simp [World.setCell]⟩

theorem Tch.setRow {b : Nat} {w : World} (cs : Array Value) : Tch b w (w.setRow b cs) :=
  ⟨fun N hN => below_setRow (Below.refl _ _) hN cs, fun j hj => Go.setRow_other w b j cs hj, by rw [size_setRow]⟩

section

variable {ops : Array Oper} {md : Region.Mode} {Q : Exit → Act → World → Prop} {S : World → Prop} {l : List (Nat × Value)} {n : Nat} {fuel : Nat} {listed : Array Bool} {a : Act} {w : World}

/-- In a region that draws: whichever is ready comes up. -/
theorem ready_val {i : Nat} {oi : Oper} {v : Value} {rs : List Nat} (hA : FrA l n a) (d : Nat) (hi : ops[i]? = some oi) (hd : oi.dst = some d) (hdn : d < n) (hg : oi.guard = none) (hS : S w) (hy : (execOp a.eval oi).run Try.prog w = .ok (.value v) w)
    (h : ∀ a', FrA ((d, v) :: l) n a' → wpAnyH Try.prog md ops Q S fuel (listed.setIfInBounds i true) a' w) (hrs : AllReadyH Try.prog md ops Q S fuel listed a w rs) : AllReadyH Try.prog md ops Q S fuel listed a w (i :: rs) :=
  AllReadyH.cons hi (fun K hK => by
    simp only [Region.wanted, hg, if_true]
    unfold Oper.wp
    rw [hy, Oper.upon_value, hd]
    exact hK.out _ _ hS (fun _ => h _ (hA.put hdn v))) hrs

theorem ready_call {i f d : Nat} {xs : Array Operand} {ts : Array TypeId} {ty : TypeId} {ps : String} {af : Array Edge} {v : Value} {args : Array Value} {S' : World → Prop} {rs : List Nat} (hA : FrA l n a) (hdn : d < n)
    (hi : ops[i]? = some { dst := some d, op := .call { callee := .value (.func f), args := xs, argTypes := ts }, type := ty, pos := ps, after := af, guard := none })
    (hcf : ∀ vs w, (callFunc f vs).run Try.prog w = .ok (.enter f vs) w) (hargs : xs.map a.eval = args) (hc : Calls Try.prog f args w fun e w' => e = .returned v ∧ S' w') (hSS : ∀ w', S' w' → S w')
    (h : ∀ w', S' w' → ∀ a', FrA ((d, v) :: l) n a' → wpAnyH Try.prog md ops Q S fuel (listed.setIfInBounds i true) a' w') (hrs : AllReadyH Try.prog md ops Q S fuel listed a w rs) : AllReadyH Try.prog md ops Q S fuel listed a w (i :: rs) :=
  AllReadyH.cons hi (fun K hK => by
    simp only [Region.wanted, if_true]
    have e1 : execOp a.eval { dst := some d, op := .call { callee := .value (.func f), args := xs, argTypes := ts }, type := ty, pos := ps, after := af, guard := none } = callFunc f (#[] ++ xs.map a.eval ++ #[]) := rfl
    unfold Oper.wp
    rw [e1, hargs, Array.empty_append, Array.append_empty, hcf, Oper.upon_enter]
    refine hc.mono fun e w'' hh => ?_
    obtain ⟨rfl, hs⟩ := hh
    exact hK.out _ _ (hSS _ hs) (fun _ => h _ hs _ (hA.put hdn v))) hrs

end

section

variable {ops : Array Oper} {md : Region.Mode} {Q : Exit → Act → World → Prop} {S : World → Prop} {l : List (Nat × Value)} {n : Nat} {fuel : Nat} {listed : Array Bool} {a : Act} {w : World}

theorem takeFg {i : Nat} {oi : Oper} {v : Value} {j dj : Nat} {want : Bool} (hA : FrA l n a) (d : Nat) (hi : ops[i]? = some oi) (hd : oi.dst = some d) (hdn : d < n) (hg : oi.guard = some (j, want)) (hdj : ((ops[j]?).bind (·.dst)) = some dj) (hq : l.lookup dj = some (.bool want))
    (hs : Region.noSelect ops = true) (hf : Region.free md ops listed i = true) (hr : (Region.ready md ops listed).contains i = true)
    (hQ : ∀ c a w, Q (.panic c) (a.put (some d) v) w → Q (.panic c) a w) (hS : S w) (hy : ∀ w, S w → (execOp a.eval oi).run Try.prog w = .ok (.value v) w)
    (h : ∀ a', FrA ((d, v) :: l) n a' → wpAnyH Try.prog md ops Q S fuel (listed.setIfInBounds i true) a' w) : wpAnyH Try.prog md ops Q S (fuel + 1) listed a w :=
  takeD (some d) hi hd hs hf hr hQ (by rw [wanted_g hA hg hdj hq]; simp) hS hy (h _ (hA.put hdn v))

theorem skipFg {i : Nat} {oi : Oper} {j dj : Nat} {want : Bool} (hA : FrA l n a) (d : Nat) (hi : ops[i]? = some oi) (hd : oi.dst = some d) (hdn : d < n) (hg : oi.guard = some (j, want)) (hdj : ((ops[j]?).bind (·.dst)) = some dj) (hq : l.lookup dj = some (.bool !want))
    (hs : Region.noSelect ops = true) (hf : Region.free md ops listed i = true) (hr : (Region.ready md ops listed).contains i = true)
    (hQ : ∀ c a w, Q (.panic c) (a.put (some d) undef) w → Q (.panic c) a w) (hS : S w)
    (h : ∀ a', FrA ((d, undef) :: l) n a' → wpAnyH Try.prog md ops Q S fuel (listed.setIfInBounds i true) a' w) : wpAnyH Try.prog md ops Q S (fuel + 1) listed a w :=
  skipD (some d) hi hd hs hf hr hQ (by rw [wanted_g hA hg hdj hq]; cases want <;> rfl) hS (h _ (hA.put hdn undef))

theorem ready_gcall {i f d : Nat} {xs : Array Operand} {ts : Array TypeId} {ty : TypeId} {ps : String} {af : Array Edge} {j dj : Nat} {want : Bool} {v : Value} {args : Array Value} {S' : World → Prop} {rs : List Nat} (hA : FrA l n a) (hdn : d < n)
    (hi : ops[i]? = some { dst := some d, op := .call { callee := .value (.func f), args := xs, argTypes := ts }, type := ty, pos := ps, after := af, guard := some (j, want) }) (hdj : ((ops[j]?).bind (·.dst)) = some dj) (hq : l.lookup dj = some (.bool want))
    (hcf : ∀ vs w, (callFunc f vs).run Try.prog w = .ok (.enter f vs) w) (hargs : xs.map a.eval = args) (hc : Calls Try.prog f args w fun e w' => e = .returned v ∧ S' w') (hSS : ∀ w', S' w' → S w')
    (h : ∀ w', S' w' → ∀ a', FrA ((d, v) :: l) n a' → wpAnyH Try.prog md ops Q S fuel (listed.setIfInBounds i true) a' w') (hrs : AllReadyH Try.prog md ops Q S fuel listed a w rs) : AllReadyH Try.prog md ops Q S fuel listed a w (i :: rs) :=
  AllReadyH.cons hi (fun K hK => by
    rw [wanted_g hA rfl hdj hq, if_pos (by simp)]
    have e1 : execOp a.eval { dst := some d, op := .call { callee := .value (.func f), args := xs, argTypes := ts }, type := ty, pos := ps, after := af, guard := some (j, want) } = callFunc f (#[] ++ xs.map a.eval ++ #[]) := rfl
    unfold Oper.wp
    rw [e1, hargs, Array.empty_append, Array.append_empty, hcf, Oper.upon_enter]
    refine hc.mono fun e w'' hh => ?_
    obtain ⟨rfl, hs⟩ := hh
    exact hK.out _ _ (hSS _ hs) (fun _ => h _ hs _ (hA.put hdn v))) hrs

end

section

variable {Q : Exit → Act → World → Prop} {w : World} {ops : Array Oper} {rest : List Oper} {o : Oper} {a : Act} {l : List (Nat × Value)} {n d : Nat}

theorem args0 : (#[] : Array Operand).map a.eval = #[] := by simp

theorem args4 (hA : FrA l n a) {x y z q : Operand} {u v p r : Value} (hx : evL l x = some u) (hy : evL l y = some v) (hz : evL l z = some p) (hq : evL l q = some r) : #[x, y, z, q].map a.eval = #[u, v, p, r] := by simp only [List.map_toArray, List.map_cons, List.map_nil, hA.ev hx, hA.ev hy, hA.ev hz, hA.ev hq]

theorem W_gcallB {f : Nat} {xs : Array Operand} {ts : Array TypeId} {ty : TypeId} {ps : String} {af : Array Edge} {j dj : Nat} {want : Bool} (hA : FrA l n a) (hdj : ((ops[j]?).bind (·.dst)) = some dj) (hq : l.lookup dj = some (.bool want)) (hdn : d < n) {args : Array Value} {v : Value} {S : World → Prop} (hcf : ∀ vs w, (callFunc f vs).run Try.prog w = .ok (.enter f vs) w) (hargs : xs.map a.eval = args)
    (hc : Calls Try.prog f args w fun e w' => e = .returned v ∧ S w') (h : ∀ w', S w' → ∀ a', FrA ((d, v) :: l) n a' → wpList Try.prog ops Q rest a' w') :
    wpList Try.prog ops Q ({ dst := some d, op := .call { callee := .value (.func f), args := xs, argTypes := ts }, type := ty, pos := ps, after := af, guard := some (j, want) } :: rest) a w := W_gcall hA hdj hq hdn hcf hargs hc h

theorem R_eqlUT (hA : FrA l n a) {x y : Operand} (ho : o.op = .binOp .eql 23 x y 23) {u v : Int} (hx : evL l x = some (.int .u64 u)) (hy : evL l y = some (.int .u64 v)) (q : Bool) (he : (u == v) = q) (w : World) : (execOp a.eval o).run Try.prog w = .ok (.value (.bool q)) w := by
  subst he; exact R_eqlU hA ho hx hy w

theorem R_neqUT (hA : FrA l n a) {x y : Operand} (ho : o.op = .binOp .neq 23 x y 23) {u v : Int} (hx : evL l x = some (.int .u64 u)) (hy : evL l y = some (.int .u64 v)) (q : Bool) (he : (u != v) = q) (w : World) : (execOp a.eval o).run Try.prog w = .ok (.value (.bool q)) w := by
  subst he; exact R_neqU hA ho hx hy w

theorem R_eqlBT (hA : FrA l n a) {x y : Operand} (ho : o.op = .binOp .eql 4 x y 4) {u v : Bool} (hx : evL l x = some (.bool u)) (hy : evL l y = some (.bool v)) (q : Bool) (he : (u == v) = q) (w : World) : (execOp a.eval o).run Try.prog w = .ok (.value (.bool q)) w := by
  subst he
  unfold execOp; simp only [ho, hA.ev hx, hA.ev hy]; cases u <;> cases v <;> simp [go_sem]

theorem R_neqBT (hA : FrA l n a) {x y : Operand} (ho : o.op = .binOp .neq 4 x y 4) {u v : Bool} (hx : evL l x = some (.bool u)) (hy : evL l y = some (.bool v)) (q : Bool) (he : (u != v) = q) (w : World) : (execOp a.eval o).run Try.prog w = .ok (.value (.bool q)) w := by
  subst he
  unfold execOp; simp only [ho, hA.ev hx, hA.ev hy]; cases u <;> cases v <;> simp [go_sem]

end

section
variable {w : World} {o : Oper} {a : Act} {l : List (Nat × Value)} {n : Nat}

theorem R_shrX (hA : FrA l n a) {x y : Operand} (ho : o.op = .binOp .shr 23 x y 23) {u : Int} {k : Nat} (hx : evL l x = some (.int .u64 u)) (h0 : 0 ≤ u) (hk : k < 64) (hy : evL l y = some (.int .u64 (k : Int))) (w : World) : (execOp a.eval o).run Try.prog w = .ok (.value (.int .u64 (u / 2 ^ k))) w := by
  unfold execOp; simp only [ho, hA.ev hx, hA.ev hy]; simp [go_sem, hk]

theorem R_shlX (hA : FrA l n a) {x y : Operand} (ho : o.op = .binOp .shl 23 x y 23) {k : Nat} (hk : k < 64) (hx : evL l x = some (.int .u64 1)) (hy : evL l y = some (.int .u64 (k : Int))) (w : World) : (execOp a.eval o).run Try.prog w = .ok (.value (.int .u64 (2 ^ k))) w := by
  have h2 : (2 : Int) ^ k < 18446744073709551616 := by
    have : (2 : Int) ^ k < 2 ^ 64 := by exact_mod_cast Nat.pow_lt_pow_right (by omega) hk
    omega
  have h3 : (0 : Int) < 2 ^ k := by exact_mod_cast Nat.two_pow_pos k
  unfold execOp; simp only [ho, hA.ev hx, hA.ev hy]; simp [go_sem]
  rw [IntKind.wrap_u64]
  omega

theorem R_gtrU (hA : FrA l n a) {x y : Operand} (ho : o.op = .binOp .gtr 23 x y 23) {u v : Int} (hx : evL l x = some (.int .u64 u)) (hy : evL l y = some (.int .u64 v)) (w : World) : (execOp a.eval o).run Try.prog w = .ok (.value (.bool (decide (v < u)))) w := by
  unfold execOp; simp only [ho, hA.ev hx, hA.ev hy]; simp [go_sem]

theorem R_geqI (hA : FrA l n a) {x y : Operand} (ho : o.op = .binOp .geq 3 x y 3) {u v : Int} (hx : evL l x = some (.int .i64 u)) (hy : evL l y = some (.int .i64 v)) (w : World) : (execOp a.eval o).run Try.prog w = .ok (.value (.bool (decide (v ≤ u)))) w := by
  unfold execOp; simp only [ho, hA.ev hx, hA.ev hy]; simp [go_sem]

theorem R_cvIU (hA : FrA l n a) {x : Operand} (ho : o.op = .convert 3 37 x) {k : Nat} (hx : evL l x = some (.int .i64 (k : Int))) (w : World) (hk : k < 1000000 := by omega) : (execOp a.eval o).run Try.prog w = .ok (.value (.int .u64 (k : Int))) w := by
  have e : IntKind.u64.wrap (k : Int) = k := by rw [IntKind.wrap_u64]; omega
  unfold execOp; simp only [ho, hA.ev hx]; simp [go_sem, e]

theorem R_cvIQ (hA : FrA l n a) {x : Operand} (ho : o.op = .convert 3 23 x) {k : Nat} (hx : evL l x = some (.int .i64 (k : Int))) (w : World) (hk : k < 1000000 := by omega) : (execOp a.eval o).run Try.prog w = .ok (.value (.int .u64 (k : Int))) w := by
  have e : IntKind.u64.wrap (k : Int) = k := by rw [IntKind.wrap_u64]; omega
  unfold execOp; simp only [ho, hA.ev hx]; simp [go_sem, e]
end

section
variable {Q : Exit → Act → World → Prop} {w : World} {ops : Array Oper} {rest : List Oper} {o : Oper} {a : Act} {l : List (Nat × Value)} {n d : Nat}

theorem W_gskipU (hA : FrA l n a) {j dj : Nat} {want : Bool} (hg : o.guard = some (j, want)) (hdj : ((ops[j]?).bind (·.dst)) = some dj) (hq : l.lookup dj = some undef) (d : Nat) (hd : o.dst = some d) (hdn : d < n)
    (h : ∀ a', FrA ((d, undef) :: l) n a' → wpList Try.prog ops Q rest a' w) : wpList Try.prog ops Q (o :: rest) a w := by
  refine wpList_step fun K hK => ?_
  have e : a.eval (.tmp dj) = undef := hA.get _ _ hq
  have e' : a.tmps.getD dj undef = undef := e
  have hw : Region.wanted o (yielded ops a.tmps) = false := by
    rw [Array.getD_eq_getD_getElem?] at e'
    simp only [Region.wanted, hg, yielded, hdj, Option.bind_some]
    cases c : a.tmps[dj]? with
    | none => cases want <;> rfl
    | some u => rw [c] at e'; simp only [Option.getD_some] at e'; subst e'; cases want <;> rfl
  rw [hw, if_neg (by simp), hd]
  exact hK _ _ (h _ (hA.put hdn undef))
end

end Go.Proofs.YtflaadnlmcgfoaaR
