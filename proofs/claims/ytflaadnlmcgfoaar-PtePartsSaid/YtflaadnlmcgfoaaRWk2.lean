/- Walks with the frame a variable: memory, calls, several values in one case, the ends; regions that draw. -/
import Derived.Test.YtflaadnlmcgfoaaRWk
import Derived.Test.YtflaadnlmcgfoaaRTakeD
import Derived.Deep.RegionHeld3
import Derived.Laws.NewBlocks
import Derived.StillTail
import Derived.Below
namespace Go.Proofs.YtflaadnlmcgfoaaR
open Go.RowKit
set_option linter.unusedVariables false
set_option maxRecDepth 100000

theorem FrA.nil {n : Nat} {a : Act} (h : a.tmps.size = n) (hd : a.defers = []) : FrA [] n a := ⟨fun i v hi => (by cases hi), h, hd⟩

theorem FrA.add {l : List (Nat × Value)} {n : Nat} {a : Act} (h : FrA l n a) (e : Nat) (v : Value) (he : a.eval (.tmp e) = v) : FrA ((e, v) :: l) n a :=
  ⟨fun i u hi => by
    rw [List.lookup_cons] at hi
    by_cases c : i == e
    · rw [c] at hi
      rw [eq_of_beq c, he]
      simpa using hi
    · rw [Bool.not_eq_true] at c
      rw [c] at hi
      exact h.get i u hi, h.sz, h.df⟩

theorem FrA.forget {l : List (Nat × Value)} {n e : Nat} {v : Value} {a : Act} (h : FrA ((e, v) :: l) n a) (he : l.lookup e = none) : FrA l n a :=
  ⟨fun i u hi => h.get i u (by
    rw [List.lookup_cons]
    by_cases c : i == e
    · rw [eq_of_beq c] at hi; rw [he] at hi; cases hi
    · rw [Bool.not_eq_true] at c; rw [c]; exact hi), h.sz, h.df⟩

theorem begin_fr {c : Code} {Q : Exit → Act → World → Prop} {a : Act} {w : World} (l : List (Nat × Value)) (n : Nat) (hA : FrA l n a) (h : ∀ a', FrA l n a' → c.wp Try.prog Q a' w) : c.wp Try.prog Q a w := h a hA

theorem ag_u64 (w : World) : (isAgg 23).run Try.prog w = .ok false w := by kernel_rfl

theorem ag_u8 (w : World) : (isAgg 5).run Try.prog w = .ok false w := by kernel_rfl

theorem ag_bool (w : World) : (isAgg 4).run Try.prog w = .ok false w := by kernel_rfl

section

variable {Q : Exit → Act → World → Prop} {w : World} {ops : Array Oper} {rest : List Oper} {o : Oper} {a : Act} {l : List (Nat × Value)} {n d : Nat}

theorem R_add (hA : FrA l n a) {x y : Operand} (ho : o.op = .binOp .add 23 x y 23) {u v : Int} (hx : evL l x = some (.int .u64 u)) (hy : evL l y = some (.int .u64 v)) (w : World) : (execOp a.eval o).run Try.prog w = .ok (.value (.int .u64 (IntKind.u64.wrap (u + v)))) w := by
  unfold execOp; simp only [ho, hA.ev hx, hA.ev hy]; simp [go_sem]

theorem R_mul (hA : FrA l n a) {x y : Operand} (ho : o.op = .binOp .mul 23 x y 23) {u v : Int} (hx : evL l x = some (.int .u64 u)) (hy : evL l y = some (.int .u64 v)) (w : World) : (execOp a.eval o).run Try.prog w = .ok (.value (.int .u64 (IntKind.u64.wrap (u * v)))) w := by
  unfold execOp; simp only [ho, hA.ev hx, hA.ev hy]; simp [go_sem]

theorem R_andNot (hA : FrA l n a) {x y : Operand} (ho : o.op = .binOp .andNot 23 x y 23) {u v : Int} (hx : evL l x = some (.int .u64 u)) (hy : evL l y = some (.int .u64 v)) (w : World) : (execOp a.eval o).run Try.prog w = .ok (.value (.int .u64 (bits .andNot .u64 u v))) w := by
  unfold execOp; simp only [ho, hA.ev hx, hA.ev hy]; simp [go_sem]

theorem R_shl1 (hA : FrA l n a) {x y : Operand} (ho : o.op = .binOp .shl 23 x y 37) {u : Int} (hx : evL l x = some (.int .u64 u)) (hy : evL l y = some (.int .u64 1)) (w : World) : (execOp a.eval o).run Try.prog w = .ok (.value (.int .u64 (IntKind.u64.wrap (u * 2)))) w := by
  unfold execOp; simp only [ho, hA.ev hx, hA.ev hy]; simp [go_sem]

theorem R_shr1 (hA : FrA l n a) {x y : Operand} (ho : o.op = .binOp .shr 23 x y 37) {u : Int} (hx : evL l x = some (.int .u64 u)) (h0 : 0 ≤ u) (hy : evL l y = some (.int .u64 1)) (w : World) : (execOp a.eval o).run Try.prog w = .ok (.value (.int .u64 (u / 2))) w := by
  unfold execOp; simp only [ho, hA.ev hx, hA.ev hy]; simp [go_sem, h0]

theorem R_eqlU (hA : FrA l n a) {x y : Operand} (ho : o.op = .binOp .eql 23 x y 23) {u v : Int} (hx : evL l x = some (.int .u64 u)) (hy : evL l y = some (.int .u64 v)) (w : World) : (execOp a.eval o).run Try.prog w = .ok (.value (.bool (u == v))) w := by
  unfold execOp; simp only [ho, hA.ev hx, hA.ev hy]; simp [go_sem]

theorem R_not (hA : FrA l n a) {x : Operand} (ho : o.op = .unOp .not 4 x) {u : Bool} (hx : evL l x = some (.bool u)) (w : World) : (execOp a.eval o).run Try.prog w = .ok (.value (.bool !u)) w := by
  unfold execOp; simp only [ho, hA.ev hx]; simp [go_sem]

theorem R_neqU (hA : FrA l n a) {x y : Operand} (ho : o.op = .binOp .neq 23 x y 23) {u v : Int} (hx : evL l x = some (.int .u64 u)) (hy : evL l y = some (.int .u64 v)) (w : World) : (execOp a.eval o).run Try.prog w = .ok (.value (.bool (u != v))) w := by
  unfold execOp; simp only [ho, hA.ev hx, hA.ev hy]; simp [go_sem]

theorem R_box (hA : FrA l n a) {T : TypeId} {x : Operand} (ho : o.op = .box T x) {cs : Array Value} (hx : evL l x = some (.agg cs)) (w : World) : (execOp a.eval o).run Try.prog w = .ok (.value (.pointer (some ⟨w.heap.size, 0, none⟩))) (w.alloc (.cells cs T)) := by
  unfold execOp; simp only [ho, hA.ev hx, Sem.run_bind, Instr.box, newVar, newRow, run_newObj_alloc, Sem.run_pure, Result.andThen_ok, Value.cells]

theorem R_alloc (hA : FrA l n a) {T : TypeId} (ho : o.op = .alloc T) {cs : Array Value} (hz : ∀ w, (zeroValue T).run Try.prog w = .ok (.agg cs) w) (w : World) : (execOp a.eval o).run Try.prog w = .ok (.value (.pointer (some ⟨w.heap.size, 0, none⟩))) (w.alloc (.cells cs T)) := by
  unfold execOp; simp only [ho, Instr.alloc]; simp [go_sem, hz, newVar, newRow, Value.cells]

theorem R_row (hA : FrA l n a) {T : TypeId} {x : Operand} (ho : o.op = .load T x) {b : Nat} (hx : evL l x = some (.pointer (some ⟨b, 0, none⟩))) {cs : Array Value} {fs : Array Field} (hw : w.heap[b]? = some (.cells cs T (0, 0)))
    (hu : Try.prog.underlying T = some (.struct fs)) (hi : (Try.prog.info? T).map (·.size) = some cs.size) : (execOp a.eval o).run Try.prog w = .ok (.value (.agg cs)) w := by
  unfold execOp; simp only [ho, hA.ev hx, Instr.loadAt, Instr.sureAddr, Sem.run_bind, Sem.run_pure, Result.andThen_ok, run_loadVar_row w b T T cs (0, 0) _ hw hu rfl hi]

theorem R_addI (hA : FrA l n a) {x y : Operand} (ho : o.op = .binOp .add 3 x y 3) {u v : Int} (hx : evL l x = some (.int .i64 u)) (hy : evL l y = some (.int .i64 v)) (w : World) : (execOp a.eval o).run Try.prog w = .ok (.value (.int .i64 (IntKind.i64.wrap (u + v)))) w := by
  unfold execOp; simp only [ho, hA.ev hx, hA.ev hy]; simp [go_sem]

theorem R_subI (hA : FrA l n a) {x y : Operand} (ho : o.op = .binOp .sub 3 x y 3) {u v : Int} (hx : evL l x = some (.int .i64 u)) (hy : evL l y = some (.int .i64 v)) (w : World) : (execOp a.eval o).run Try.prog w = .ok (.value (.int .i64 (IntKind.i64.wrap (u - v)))) w := by
  unfold execOp; simp only [ho, hA.ev hx, hA.ev hy]; simp [go_sem]

theorem R_eqlI (hA : FrA l n a) {x y : Operand} (ho : o.op = .binOp .eql 3 x y 3) {u v : Int} (hx : evL l x = some (.int .i64 u)) (hy : evL l y = some (.int .i64 v)) (w : World) : (execOp a.eval o).run Try.prog w = .ok (.value (.bool (u == v))) w := by
  unfold execOp; simp only [ho, hA.ev hx, hA.ev hy]; simp [go_sem]

theorem R_pick (hA : FrA l n a) {c x y : Operand} (ho : o.op = .pick c x y) {q : Bool} (hc : evL l c = some (.bool q)) {v : Value} (hv : (if q then evL l x else evL l y) = some v) (w : World) : (execOp a.eval o).run Try.prog w = .ok (.value v) w := by
  unfold execOp; simp only [ho, hA.ev hc]
  cases q
  · simp only [hA.ev (show evL l y = some v from hv)]; simp [go_sem]
  · simp only [hA.ev (show evL l x = some v from hv)]; simp [go_sem]

theorem wanted_g (hA : FrA l n a) {j dj : Nat} {want q : Bool} (hg : o.guard = some (j, want)) (hd : ((ops[j]?).bind (·.dst)) = some dj) (hv : l.lookup dj = some (.bool q)) : Region.wanted o (yielded ops a.tmps) = (q == want) := by
  have e : a.eval (.tmp dj) = .bool q := hA.get _ _ hv
  have e' : a.tmps.getD dj undef = .bool q := e
  have e2 : a.tmps[dj]? = some (.bool q) := by
    rw [Array.getD_eq_getD_getElem?] at e'
    cases c : a.tmps[dj]? with
    | none => rw [c] at e'; cases e'
    | some u => rw [c] at e'; exact congrArg some e'
  simp only [Region.wanted, hg, yielded, hd, Option.bind_some, e2]
  cases q <;> cases want <;> rfl

/-- A guarded operation: it runs, or it does not. -/
theorem W_gval (hA : FrA l n a) {j dj : Nat} {want : Bool} (hg : o.guard = some (j, want)) (hdj : ((ops[j]?).bind (·.dst)) = some dj) (hq : l.lookup dj = some (.bool want)) (d : Nat) (hd : o.dst = some d) (hdn : d < n) (v : Value) (w' : World) (hrun : (execOp a.eval o).run Try.prog w = .ok (.value v) w')
    (h : ∀ a', FrA ((d, v) :: l) n a' → wpList Try.prog ops Q rest a' w') : wpList Try.prog ops Q (o :: rest) a w := by
  refine wpList_step fun K hK => ?_
  rw [wanted_g hA hg hdj hq, if_pos (by simp)]
  unfold Oper.wp
  rw [hrun, Oper.upon_value, hd]
  exact hK _ _ (h _ (hA.put hdn v))

theorem W_gskip (hA : FrA l n a) {j dj : Nat} {want : Bool} (hg : o.guard = some (j, want)) (hdj : ((ops[j]?).bind (·.dst)) = some dj) (hq : l.lookup dj = some (.bool !want)) (d : Nat) (hd : o.dst = some d) (hdn : d < n)
    (h : ∀ a', FrA ((d, undef) :: l) n a' → wpList Try.prog ops Q rest a' w) : wpList Try.prog ops Q (o :: rest) a w := by
  refine wpList_step fun K hK => ?_
  rw [wanted_g hA hg hdj hq, if_neg (by simp), hd]
  exact hK _ _ (h _ (hA.put hdn undef))

theorem W_split (hA : FrA l n a) (s : Nat) {q : Bool} {L : List Oper} (hs : l.lookup s = some (.bool q)) (ht : q = true → FrA ((s, .bool true) :: l) n a → wpList Try.prog ops Q L a w) (hf : q = false → FrA ((s, .bool false) :: l) n a → wpList Try.prog ops Q L a w) : wpList Try.prog ops Q L a w := by
  cases q
  · exact hf rfl (hA.add s _ (hA.get _ _ hs))
  · exact ht rfl (hA.add s _ (hA.get _ _ hs))

theorem W_gcall {f : Nat} {xs : Array Operand} {ts : Array TypeId} {ty : TypeId} {ps : String} {af : Array Edge} {j dj : Nat} {want : Bool} (hA : FrA l n a) (hdj : ((ops[j]?).bind (·.dst)) = some dj) (hq : l.lookup dj = some (.bool want)) (hdn : d < n) {args : Array Value} {v : Value} {S : World → Prop} (hcf : ∀ vs w, (callFunc f vs).run Try.prog w = .ok (.enter f vs) w) (hargs : xs.map a.eval = args)
    (hc : Calls Try.prog f args w fun e w' => e = .returned v ∧ S w') (h : ∀ w', S w' → ∀ a', FrA ((d, v) :: l) n a' → wpList Try.prog ops Q rest a' w') :
    wpList Try.prog ops Q ({ dst := some d, op := .call { callee := .value (.func f), args := xs, argTypes := ts }, type := ty, pos := ps, after := af, guard := some (j, want) } :: rest) a w := by
  refine wpList_step fun K hK => ?_
  rw [wanted_g hA rfl hdj hq, if_pos (by simp)]
  have e1 : execOp a.eval { dst := some d, op := .call { callee := .value (.func f), args := xs, argTypes := ts }, type := ty, pos := ps, after := af, guard := some (j, want) } = callFunc f (#[] ++ xs.map a.eval ++ #[]) := rfl
  unfold Oper.wp
  rw [e1, hargs, Array.empty_append, Array.append_empty, hcf, Oper.upon_enter]
  refine hc.mono fun e w'' hh => ?_
  obtain ⟨rfl, hs⟩ := hh
  exact hK _ _ (h _ hs _ (hA.put hdn v))

theorem W_callA {f : Nat} {xs : Array Operand} {ts : Array TypeId} {ty : TypeId} {ps : String} {af : Array Edge} (hA : FrA l n a) (hdn : d < n) {args : Array Value} {v : Value} {S : World → Prop} (hcf : ∀ vs w, (callFunc f vs).run Try.prog w = .ok (.enter f vs) w) (hargs : xs.map a.eval = args)
    (hc : Calls Try.prog f args w fun e w' => e = .returned v ∧ S w') (h : ∀ w', S w' → ∀ a', FrA ((d, v) :: l) n a' → wpList Try.prog ops Q rest a' w') :
    wpList Try.prog ops Q ({ dst := some d, op := .call { callee := .value (.func f), args := xs, argTypes := ts }, type := ty, pos := ps, after := af, guard := none } :: rest) a w := by
  refine wpList_plain rfl fun K hK => ?_
  have e1 : execOp a.eval { dst := some d, op := .call { callee := .value (.func f), args := xs, argTypes := ts }, type := ty, pos := ps, after := af, guard := none } = callFunc f (#[] ++ xs.map a.eval ++ #[]) := rfl
  unfold Oper.wp
  rw [e1, hargs, Array.empty_append, Array.append_empty, hcf, Oper.upon_enter]
  refine hc.mono fun e w'' hh => ?_
  obtain ⟨rfl, hs⟩ := hh
  exact hK _ _ (h _ hs _ (hA.put hdn v))

theorem W_call1 {f : Nat} {x : Operand} {ts : Array TypeId} {ty : TypeId} {ps : String} {af : Array Edge} (hA : FrA l n a) (hdn : d < n) {u v : Value} {S : World → Prop} (hcf : ∀ vs w, (callFunc f vs).run Try.prog w = .ok (.enter f vs) w) (hx : evL l x = some u)
    (hc : Calls Try.prog f #[u] w fun e w' => e = .returned v ∧ S w') (h : ∀ w', S w' → ∀ a', FrA ((d, v) :: l) n a' → wpList Try.prog ops Q rest a' w') :
    wpList Try.prog ops Q ({ dst := some d, op := .call { callee := .value (.func f), args := #[x], argTypes := ts }, type := ty, pos := ps, after := af, guard := none } :: rest) a w :=
  W_callA hA hdn hcf (by simp only [List.map_toArray, List.map_cons, List.map_nil, hA.ev hx]) hc h

theorem W_call2 {f : Nat} {x y : Operand} {ts : Array TypeId} {ty : TypeId} {ps : String} {af : Array Edge} (hA : FrA l n a) (hdn : d < n) {u1 u2 v : Value} {S : World → Prop} (hcf : ∀ vs w, (callFunc f vs).run Try.prog w = .ok (.enter f vs) w) (hx : evL l x = some u1) (hy : evL l y = some u2)
    (hc : Calls Try.prog f #[u1, u2] w fun e w' => e = .returned v ∧ S w') (h : ∀ w', S w' → ∀ a', FrA ((d, v) :: l) n a' → wpList Try.prog ops Q rest a' w') :
    wpList Try.prog ops Q ({ dst := some d, op := .call { callee := .value (.func f), args := #[x, y], argTypes := ts }, type := ty, pos := ps, after := af, guard := none } :: rest) a w :=
  W_callA hA hdn hcf (by simp only [List.map_toArray, List.map_cons, List.map_nil, hA.ev hx, hA.ev hy]) hc h

theorem W_call3 {f : Nat} {x y z : Operand} {ts : Array TypeId} {ty : TypeId} {ps : String} {af : Array Edge} (hA : FrA l n a) (hdn : d < n) {u1 u2 u3 v : Value} {S : World → Prop} (hcf : ∀ vs w, (callFunc f vs).run Try.prog w = .ok (.enter f vs) w) (hx : evL l x = some u1) (hy : evL l y = some u2) (hz : evL l z = some u3)
    (hc : Calls Try.prog f #[u1, u2, u3] w fun e w' => e = .returned v ∧ S w') (h : ∀ w', S w' → ∀ a', FrA ((d, v) :: l) n a' → wpList Try.prog ops Q rest a' w') :
    wpList Try.prog ops Q ({ dst := some d, op := .call { callee := .value (.func f), args := #[x, y, z], argTypes := ts }, type := ty, pos := ps, after := af, guard := none } :: rest) a w :=
  W_callA hA hdn hcf (by simp only [List.map_toArray, List.map_cons, List.map_nil, hA.ev hx, hA.ev hy, hA.ev hz]) hc h

/-- A store of one cell; of a whole row. -/
theorem W_st (hA : FrA l n a) (hg : o.guard = none) (hd : o.dst = none) {T : TypeId} {x y : Operand} (ho : o.op = .store T x y) {p : Addr} {v : Value} (hx : evL l x = some (.pointer (some p))) (hy : evL l y = some v)
    (hs : (storeVar T p v).run Try.prog w = .ok () (w.setCell p v)) (h : wpList Try.prog ops Q rest a (w.setCell p v)) : wpList Try.prog ops Q (o :: rest) a w := by
  refine wpList_plain hg fun K hK => ?_
  unfold Oper.wp execOp
  simp only [ho, hA.ev hx, hA.ev hy, Instr.storeAt, Instr.sureAddr, Sem.run_bind, Sem.run_pure, Result.andThen_ok, hs]
  have := hK _ _ h
  rw [show a = a.put o.dst undef by rw [hd]; rfl] at this
  exact this

theorem W_strow (hA : FrA l n a) (hg : o.guard = none) (hd : o.dst = none) {T : TypeId} {x y : Operand} (ho : o.op = .store T x y) {b : Nat} {cs old : Array Value} (hx : evL l x = some (.pointer (some ⟨b, 0, none⟩))) (hy : evL l y = some (.agg cs))
    (hw : w.heap[b]? = some (.cells old T (0, 0))) (hi : (Try.prog.info? T).map (·.size) = some cs.size) (ho2 : old.size = cs.size) (h1 : cs.all (·.oneCell') = true) (h : wpList Try.prog ops Q rest a (w.setRow b cs)) : wpList Try.prog ops Q (o :: rest) a w := by
  refine wpList_store_row (by simp only [Region.wanted, hg]) T x y ho b cs (hA.ev hx) (hA.ev hy) T old hw hi ho2 h1 ?_
  rw [hd]; exact h

theorem R_shrN (hA : FrA l n a) {x y : Operand} (ho : o.op = .binOp .shr 23 x y 37) {u : Int} (k : Nat) (hx : evL l x = some (.int .u64 u)) (h0 : 0 ≤ u) (hk : k < 64) (hy : evL l y = some (.int .u64 (k : Int))) (w : World) : (execOp a.eval o).run Try.prog w = .ok (.value (.int .u64 (u / 2 ^ k))) w := by
  unfold execOp; simp only [ho, hA.ev hx, hA.ev hy]; simp [go_sem, h0]

theorem R_lssI (hA : FrA l n a) {x y : Operand} (ho : o.op = .binOp .lss 3 x y 3) {u v : Int} (hx : evL l x = some (.int .i64 u)) (hy : evL l y = some (.int .i64 v)) (w : World) : (execOp a.eval o).run Try.prog w = .ok (.value (.bool (decide (u < v)))) w := by
  unfold execOp; simp only [ho, hA.ev hx, hA.ev hy]; simp [go_sem]

theorem R_nilCheck (hA : FrA l n a) {x : Operand} (ho : o.op = .nilCheck x) {p : Addr} (hx : evL l x = some (.pointer (some p))) (w : World) : (execOp a.eval o).run Try.prog w = .ok (.value (.pointer (some p))) w := by
  unfold execOp; simp only [ho, hA.ev hx]; simp [go_sem]

theorem R_index (hA : FrA l n a) {T : TypeId} {x y : Operand} (ho : o.op = .index T x y) {u v r : Value} (hx : evL l x = some u) (hy : evL l y = some v) (hT : ∀ w, (Instr.index T u v).run Try.prog w = .ok r w) (w : World) : (execOp a.eval o).run Try.prog w = .ok (.value r) w := by
  unfold execOp; simp only [ho, hA.ev hx, hA.ev hy, Sem.run_bind, hT, Result.andThen_ok, Sem.run_pure]

theorem evs (hA : FrA l n a) : ∀ (ps : List (Nat × Operand)) (vs : List (Nat × Value)), ps.map (fun p => (p.1, evL l p.2)) = vs.map (fun q => (q.1, some q.2)) → ps.map (fun p => (p.1, a.eval p.2)) = vs
  | [], [], _ => rfl
  | [], _ :: _, h => by cases h
  | _ :: _, [], h => by cases h
  | p :: ps, v :: vs, h => by
    simp only [List.map_cons, List.cons.injEq, Prod.mk.injEq] at h
    simp only [List.map_cons, List.cons.injEq]
    exact ⟨by rw [hA.ev h.1.2, h.1.1], evs hA ps vs h.2⟩

theorem R_build (hA : FrA l n a) {T : TypeId} {ps : List (Nat × Operand)} (ho : o.op = .build T ps.toArray) (vs : List (Nat × Value)) (hv : ps.map (fun p => (p.1, evL l p.2)) = vs.map (fun q => (q.1, some q.2))) {cs : Array Value} (hb : Try.prog.built T vs = some cs) (w : World) : (execOp a.eval o).run Try.prog w = .ok (.value (.agg cs)) w := by
  have e := evs hA ps vs hv
  have e2 : (ps.toArray.map fun (i, x) => (i, a.eval x)).toList = vs := by simpa using e
  unfold execOp
  simp only [ho]
  have h2 := run_build (P := Try.prog) w T (ps.toArray.map fun (i, x) => (i, a.eval x)) cs (by rw [e2]; exact hb)
  simp only [Sem.run_bind, h2, Result.andThen_ok, Sem.run_pure]

def cntA (a : Act) (s : Nat) : Nat := match a.eval (.tmp s) with | .int _ n => n.toNat | _ => 0

/-- A loop that counts. -/
theorem loop_cnt {c : Code} (s N : Nat) (I : Nat → Act → World → Prop) (hI : ∀ k a w, I k a w → ∃ ik, a.eval (.tmp s) = .int ik (k : Int)) (h0 : I 0 a w) (round : ∀ k a w, k ≤ N → I k a w → c.wp Try.prog (Exit.then (fun a' w' => k < N ∧ I (k + 1) a' w') Q) a w) : (Code.loop c).wp Try.prog Q a w := by
  have hc : ∀ k a w, I k a w → cntA a s = k := fun k a w h => by
    obtain ⟨ik, e⟩ := hI k a w h
    unfold cntA; rw [e]; simp
  refine wp_loop (fun a w => ∃ k, k ≤ N ∧ I k a w) (fun a w => N - cntA a s) ⟨0, Nat.zero_le _, h0⟩ (fun a w h => ?_)
  obtain ⟨k, hk, h⟩ := h
  refine wp_mono (round k a w hk h) ?_
  intro e a' w' q
  cases e with
  | normal =>
    obtain ⟨h1, h2⟩ := q
    refine ⟨⟨k + 1, h1, h2⟩, ?_⟩
    rw [hc _ _ _ h, hc _ _ _ h2]; omega
  | _ => exact q

theorem R_quo2 (hA : FrA l n a) {x y : Operand} {b : BinOp} (hb : b = .quo) (ho : o.op = .binOp b 23 x y 23) {u : Int} (hx : evL l x = some (.int .u64 u)) (h0 : 0 ≤ u ∧ u < 18446744073709551616) (hy : evL l y = some (.int .u64 2)) (w : World) : (execOp a.eval o).run Try.prog w = .ok (.value (.int .u64 (u / 2))) w := by
  subst hb
  obtain ⟨h1, h2⟩ := h0
  unfold execOp; simp only [ho, hA.ev hx, hA.ev hy]; simp [go_sem]
  rw [Int.tdiv_eq_ediv_of_nonneg h1, IntKind.wrap_u64]
  omega

theorem R_lssW (hA : FrA l n a) {x y : Operand} (ho : o.op = .binOp .lss 37 x y 37) {u v : Int} (hx : evL l x = some (.int .u64 u)) (hy : evL l y = some (.int .u64 v)) (w : World) : (execOp a.eval o).run Try.prog w = .ok (.value (.bool (decide (u < v)))) w := by
  unfold execOp; simp only [ho, hA.ev hx, hA.ev hy]; simp [go_sem]

theorem R_addW (hA : FrA l n a) {x y : Operand} (ho : o.op = .binOp .add 37 x y 37) {u v : Int} (hx : evL l x = some (.int .u64 u)) (hy : evL l y = some (.int .u64 v)) (w : World) : (execOp a.eval o).run Try.prog w = .ok (.value (.int .u64 (IntKind.u64.wrap (u + v)))) w := by
  unfold execOp; simp only [ho, hA.ev hx, hA.ev hy]; simp [go_sem]

theorem R_shlK (hA : FrA l n a) {x y : Operand} (ho : o.op = .binOp .shl 23 x y 37) {k : Nat} (hk : k < 64) (hx : evL l x = some (.int .u64 1)) (hy : evL l y = some (.int .u64 (k : Int))) (w : World) : (execOp a.eval o).run Try.prog w = .ok (.value (.int .u64 (2 ^ k))) w := by
  have h2 : (2 : Int) ^ k < 18446744073709551616 := by
    have : (2 : Int) ^ k < 2 ^ 64 := by exact_mod_cast Nat.pow_lt_pow_right (by omega) hk
    omega
  have h3 : (0 : Int) < 2 ^ k := by exact_mod_cast Nat.two_pow_pos k
  unfold execOp; simp only [ho, hA.ev hx, hA.ev hy]; simp [go_sem]
  rw [IntKind.wrap_u64]
  omega

/-- An 'if' whose branches end alike. -/
theorem wp_cond_merge {c : Operand} {X Y : Code} {K : Act → World → Prop} {t : Bool} (I : Act → World → Prop) (hc : a.eval c = .bool t) (hx : t = true → X.wp Try.prog (Exit.then I Q) a w) (hy : t = false → Y.wp Try.prog (Exit.then I Q) a w) (h : ∀ a' w', I a' w' → K a' w') : (Code.cond c X Y).wp Try.prog (Exit.then K Q) a w := by
  refine wp_cond_split hc (fun e => wp_mono (hx e) ?_) (fun e => wp_mono (hy e) ?_)
  all_goals
    intro e a' w' q
    cases e with
    | normal => exact h _ _ q
    | _ => exact q

theorem args1 (hA : FrA l n a) {x : Operand} {u : Value} (hx : evL l x = some u) : #[x].map a.eval = #[u] := by simp only [List.map_toArray, List.map_cons, List.map_nil, hA.ev hx]

theorem args2 (hA : FrA l n a) {x y : Operand} {u v : Value} (hx : evL l x = some u) (hy : evL l y = some v) : #[x, y].map a.eval = #[u, v] := by simp only [List.map_toArray, List.map_cons, List.map_nil, hA.ev hx, hA.ev hy]

theorem args3 (hA : FrA l n a) {x y z : Operand} {u v p : Value} (hx : evL l x = some u) (hy : evL l y = some v) (hz : evL l z = some p) : #[x, y, z].map a.eval = #[u, v, p] := by simp only [List.map_toArray, List.map_cons, List.map_nil, hA.ev hx, hA.ev hy, hA.ev hz]

/-! a region that draws, whose operations leave the world alone but for the last -/
theorem still_tail {id : Nat} {l : List Oper} (N : Nat) (hB : Region.lexTailB .any l.toArray N = true)
    (h : ∀ w', Below w.heap.size w w' → wpStill Try.prog l.toArray w' (fun a' => wpList Try.prog l.toArray Q (l.drop N) a' w') (l.take N) a) : (Code.region id l.toArray true).wp Try.prog Q a w :=
  wp_region_still_tail N (by kernel_rfl) hB (h _ ((Below.refl _ _).drew))

theorem still_nil {Q' : Act → Prop} (h : Q' a) : wpStill Try.prog ops w Q' [] a := h

theorem S_val {Q' : Act → Prop} (hA : FrA l n a) (hg : o.guard = none) (d : Nat) (hd : o.dst = some d) (hdn : d < n) (v : Value) (hrun : (execOp a.eval o).run Try.prog w = .ok (.value v) w)
    (h : ∀ a', FrA ((d, v) :: l) n a' → wpStill Try.prog ops w Q' rest a') : wpStill Try.prog ops w Q' (o :: rest) a := by
  refine wpStill_step fun K hK => ?_
  simp only [Region.wanted, hg, if_true]
  unfold Oper.still
  rw [hrun, Oper.stillUpon_value, hd]
  exact hK _ (h _ (hA.put hdn v))

theorem S_call {Q' : Act → Prop} {f : Nat} {xs : Array Operand} {ts : Array TypeId} {ty : TypeId} {ps : String} {af : Array Edge} (hA : FrA l n a) (hdn : d < n) {args : Array Value} {v : Value} (hcf : ∀ vs w, (callFunc f vs).run Try.prog w = .ok (.enter f vs) w) (hargs : xs.map a.eval = args)
    (hc : Calls Try.prog f args w fun e w' => e = .returned v ∧ w = w') (h : ∀ a', FrA ((d, v) :: l) n a' → wpStill Try.prog ops w Q' rest a') :
    wpStill Try.prog ops w Q' ({ dst := some d, op := .call { callee := .value (.func f), args := xs, argTypes := ts }, type := ty, pos := ps, after := af, guard := none } :: rest) a := by
  refine wpStill_step fun K hK => ?_
  simp only [Region.wanted, if_true]
  have e1 : execOp a.eval { dst := some d, op := .call { callee := .value (.func f), args := xs, argTypes := ts }, type := ty, pos := ps, after := af, guard := none } = callFunc f (#[] ++ xs.map a.eval ++ #[]) := rfl
  unfold Oper.still
  rw [e1, hargs, Array.empty_append, Array.append_empty, hcf]
  exact ⟨rfl, v, hc.mono fun e w'' hh => ⟨hh.1, hh.2.symm⟩, hK _ (h _ (hA.put hdn v))⟩

/-! several values in one case -/

def Sets (n : Nat) (l : List (Nat × Value)) (f : Nat) (b : Bool) (C : Code) : Prop := ∀ (Q : Exit → Act → World → Prop) (a : Act) (w : World), FrA l n a → (∀ a', FrA l n a' → a'.eval (.tmp f) = .bool b → Q .normal a' w) → C.wp Try.prog Q a w

theorem sets_one {ix e f : Nat} {x : Operand} {k j : Int} {p1 p2 : String} {ty ty2 : TypeId} {af : Array Edge} (hx : evL l x = some (.int .i64 k)) (he : e < n) (hf : f < n) (hle : l.lookup e = none) (hlf : l.lookup f = none) :
    Sets n l f (k == j) (Code.region ix #[{ dst := some e, op := .binOp .eql 3 x (.const (.int .i64 j)) 3, type := ty, pos := p1, after := #[], guard := none }, { dst := some f, op := .assign (.tmp e), type := ty2, pos := p2, after := af, guard := none }] false) := by
  intro Q a w hA hQ
  refine wp_region_list ?_
  refine W_val hA rfl e rfl he (.bool (k == j)) w (by unfold execOp; simp only [hA.ev hx, hA.ev (show evL l (.const (.int .i64 j)) = some (.int .i64 j) from rfl)]; simp [go_sem]) fun a1 h1 => ?_
  have h0 := h1.forget hle
  refine wpList_plain rfl fun K hK => ?_
  have hK' := hK (a1.put (some f) (.bool (k == j))) w
  unfold Oper.wp execOp
  simp only [h1.ev (show evL ((e, Value.bool (k == j)) :: l) (.tmp e) = some (.bool (k == j)) by simp [evL])]
  exact hK' (W_nil (hQ _ (h0.skip hlf _) (Act.eval_put_same _ _ _ (by rw [h1.sz]; exact hf))))

theorem sets_more {ix e f : Nat} {x : Operand} {k j : Int} {p1 p2 : String} {ty ty2 : TypeId} {af : Array Edge} {C : Code} {b : Bool} (hx : evL l x = some (.int .i64 k)) (he : e < n) (hf : f < n) (hle : l.lookup e = none) (hlf : l.lookup f = none) (hC : Sets n l f b C) :
    Sets n l f (k == j || b) ((Code.region ix #[{ dst := some e, op := .binOp .eql 3 x (.const (.int .i64 j)) 3, type := ty, pos := p1, after := #[], guard := none }, { dst := some f, op := .assign (.tmp e), type := ty2, pos := p2, after := af, guard := none }] false).seq (Code.cond (.tmp f) Code.skip C)) := by
  intro Q a w hA hQ
  refine wp_seq (sets_one hx he hf hle hlf _ a w hA fun a1 h1 e1 => ?_)
  show (Code.cond (.tmp f) Code.skip C).wp Try.prog Q a1 w
  refine wp_cond_split e1 (fun h => wp_skip (hQ _ h1 ?_)) (fun h => hC Q a1 w h1 fun a2 h2 e2 => hQ _ h2 ?_)
  · rw [e1, h]; rfl
  · rw [e2, h]; rfl

theorem W_tests {f : Nat} {C X Y : Code} {b : Bool} (hA : FrA l n a) (hC : Sets n l f b C) (hy : b = true → ∀ a', FrA l n a' → X.wp Try.prog Q a' w) (hn : b = false → ∀ a', FrA l n a' → Y.wp Try.prog Q a' w) : (C.seq (Code.cond (.tmp f) X Y)).wp Try.prog Q a w :=
  wp_seq (hC _ a w hA fun a1 h1 e1 => wp_cond_split e1 (fun h => hy h _ h1) (fun h => hn h _ h1))

/-! the ends -/
theorem ret_tmp {fn : Func} {R : Ending → World → Prop} {j : Nat} {v : Value} (hr : fn.results = #[.tmp j]) (hA : FrA l n a) (hj : j < n) (hv : l.lookup j = some v) (hR : R (.returned v) w) : bodyPost Try.prog fn R .ret a w := by
  refine bodyPost_ret (v := v) ?_ hA.df hR
  have e : a.eval (.tmp j) = v := hA.get _ _ hv
  have e' : a.tmps.getD j undef = v := e
  simp [results, hr, go_sem]
  simpa using e'

theorem ret_row {fn : Func} {R : Ending → World → Prop} {j b : Nat} {T : TypeId} {cs : Array Value} {fs : Array Field} (hr : fn.results = #[.cell j T]) (hA : FrA l n a) (hv : l.lookup j = some (.pointer (some ⟨b, 0, none⟩))) (hw : w.heap[b]? = some (.cells cs T (0, 0)))
    (hu : Try.prog.underlying T = some (.struct fs)) (hi : (Try.prog.info? T).map (·.size) = some cs.size) (hR : R (.returned (.agg cs)) w) : bodyPost Try.prog fn R .ret a w :=
  bodyPost_ret (results_cell_row hr _ _ b T cs (0, 0) _ (hA.get _ _ hv) hw hu rfl hi) hA.df hR

end

section

variable {ops : Array Oper} {md : Region.Mode} {Q : Exit → Act → World → Prop} {S : World → Prop} {l : List (Nat × Value)} {n : Nat}

/-- In a region that draws: an operation is taken first. -/
theorem takeF {i : Nat} {oi : Oper} {v : Value} {fuel : Nat} {listed : Array Bool} {a : Act} {w : World} (hA : FrA l n a) (d : Nat) (hi : ops[i]? = some oi) (hd : oi.dst = some d) (hdn : d < n) (hg : oi.guard = none)
    (hs : Region.noSelect ops = true) (hf : Region.free md ops listed i = true) (hr : (Region.ready md ops listed).contains i = true)
    (hQ : ∀ c a w, Q (.panic c) (a.put (some d) v) w → Q (.panic c) a w) (hS : S w) (hy : ∀ w, S w → (execOp a.eval oi).run Try.prog w = .ok (.value v) w)
    (h : ∀ a', FrA ((d, v) :: l) n a' → wpAnyH Try.prog md ops Q S fuel (listed.setIfInBounds i true) a' w) : wpAnyH Try.prog md ops Q S (fuel + 1) listed a w :=
  takeD (some d) hi hd hs hf hr hQ (by simp only [Region.wanted, hg]) hS hy (h _ (hA.put hdn v))

/-- The one operation that is ready is a call. -/
theorem callF {i f : Nat} {xs : Array Operand} {ts : Array TypeId} {ty : TypeId} {ps : String} {af : Array Edge} {v : Value} {args : Array Value} {fuel d : Nat} {listed : Array Bool} {a : Act} {w : World} {S' : World → Prop} (hA : FrA l n a) (hdn : d < n)
    (hr : Region.ready md ops listed = [i]) (hi : ops[i]? = some { dst := some d, op := .call { callee := .value (.func f), args := xs, argTypes := ts }, type := ty, pos := ps, after := af, guard := none })
    (hcf : ∀ vs w, (callFunc f vs).run Try.prog w = .ok (.enter f vs) w) (hargs : xs.map a.eval = args) (hc : Calls Try.prog f args w fun e w' => e = .returned v ∧ S' w') (hSS : ∀ w', S' w' → S w')
    (h : ∀ w', S' w' → ∀ a', FrA ((d, v) :: l) n a' → wpAnyH Try.prog md ops Q S fuel (listed.setIfInBounds i true) a' w') : wpAnyH Try.prog md ops Q S (fuel + 1) listed a w := by
  refine wpAnyH_ready hr (by simp) (AllReadyH.cons hi (fun K hK => ?_) AllReadyH.nil)
  simp only [Region.wanted, if_true]
  have e1 : execOp a.eval { dst := some d, op := .call { callee := .value (.func f), args := xs, argTypes := ts }, type := ty, pos := ps, after := af, guard := none } = callFunc f (#[] ++ xs.map a.eval ++ #[]) := rfl
  unfold Oper.wp
  rw [e1, hargs, Array.empty_append, Array.append_empty, hcf, Oper.upon_enter]
  refine hc.mono fun e w'' hh => ?_
  obtain ⟨rfl, hs⟩ := hh
  exact hK.out _ _ (hSS _ hs) (fun _ => h _ hs _ (hA.put hdn v))

end

end Go.Proofs.YtflaadnlmcgfoaaR
