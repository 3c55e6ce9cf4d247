/- Walks with the frame a variable, under a fence that lets all in: in a round of a range over a function, in an iterator, in the function that ranges. -/
import Derived.Test.YthgjgloedlkaiaaDoorWk3
import Derived.RangeFuncNested
import Derived.RangeFuncLeaves
import Derived.RangeFuncCalls
import Derived.WalkKit
import Derived.TacticsInMore
import Derived.LoopIn
namespace Go.Proofs.YthgjgloedlkaiaaDoor
open Go.RowKit
set_option linter.unusedVariables false
set_option maxRecDepth 100000

/-- A fence that lets all in. -/
structure WideF (F : Fence) : Prop where
  fn : ∀ f, F.fn f
  dp : F.depth = none
  calls : ∀ {n : Nat} {f : FuncId} {args : Array Value} {w : World} {R : Ending → World → Prop}, Calls Tryd.prog f args w R → CallsIn F n Tryd.prog f args w R

theorem wide0 : WideF Fence.wide := ⟨fun _ => trivial, rfl, fun h => callsIn_wide.2 h⟩

theorem wideR (l : Nat) : WideF (Fence.wide.inRound l) := ⟨fun _ => trivial, rfl, fun h => CallsIn.inRound l (callsIn_wide.2 h)⟩

def noDefer : Op → Bool
  | .defer _ => false
  | _ => true

theorem semAt_plain (r : Option Nat) (ρ : Operand → Value) (o : Oper) (h : noDefer o.op = true) : Oper.semAt r ρ o = execOp ρ o := by
  cases r with
  | none => exact Oper.semAt_none _ _
  | some l => exact Oper.semAt_some l ρ o (fun c e => by rw [e] at h; cases h)

section

variable {F : Fence} {m : Nat} {Q : Exit → Act → World → Prop} {w : World} {ops : Array Oper} {rest : List Oper} {o : Oper} {a : Act} {l : List (Nat × Value)} {n d : Nat}

theorem V_nil (h : Q .normal a w) : wpListIn F m Tryd.prog ops Q [] a w := h

theorem V_val (hF : WideF F) (hA : FrA l n a) (hnd : noDefer o.op = true) (hg : o.guard = none) (d : Nat) (hd : o.dst = some d) (hdn : d < n) (v : Value) (w' : World) (hrun : (execOp a.eval o).run Tryd.prog w = .ok (.value v) w')
    (h : ∀ a', FrA ((d, v) :: l) n a' → wpListIn F m Tryd.prog ops Q rest a' w') : wpListIn F m Tryd.prog ops Q (o :: rest) a w := by
  refine wpListIn_plain hg fun K hK => ?_
  unfold Oper.wpIn
  rw [semAt_plain _ _ _ hnd, hrun, Oper.uponIn_value, hd]
  exact ⟨fun f _ => hF.fn f, hK _ _ (h _ (hA.put hdn v))⟩

theorem V_gval (hF : WideF F) (hA : FrA l n a) (hnd : noDefer o.op = true) {j dj : Nat} {want : Bool} (hg : o.guard = some (j, want)) (hdj : ((ops[j]?).bind (·.dst)) = some dj) (hq : l.lookup dj = some (.bool want)) (d : Nat) (hd : o.dst = some d) (hdn : d < n) (v : Value) (w' : World) (hrun : (execOp a.eval o).run Tryd.prog w = .ok (.value v) w')
    (h : ∀ a', FrA ((d, v) :: l) n a' → wpListIn F m Tryd.prog ops Q rest a' w') : wpListIn F m Tryd.prog ops Q (o :: rest) a w := by
  refine wpListIn_step fun K hK => ?_
  rw [wanted_g hA hg hdj hq, if_pos (by simp)]
  unfold Oper.wpIn
  rw [semAt_plain _ _ _ hnd, hrun, Oper.uponIn_value, hd]
  exact ⟨fun f _ => hF.fn f, hK _ _ (h _ (hA.put hdn v))⟩

theorem V_gskip (hF : WideF F) (hA : FrA l n a) {j dj : Nat} {want : Bool} (hg : o.guard = some (j, want)) (hdj : ((ops[j]?).bind (·.dst)) = some dj) (hq : l.lookup dj = some (.bool !want)) (d : Nat) (hd : o.dst = some d) (hdn : d < n)
    (h : ∀ a', FrA ((d, undef) :: l) n a' → wpListIn F m Tryd.prog ops Q rest a' w) : wpListIn F m Tryd.prog ops Q (o :: rest) a w := by
  refine wpListIn_step fun K hK => ?_
  rw [wanted_g hA hg hdj hq, if_neg (by simp), hd]
  exact ⟨fun f _ => hF.fn f, hK _ _ (h _ (hA.put hdn undef))⟩

theorem V_split (hA : FrA l n a) (s : Nat) {q : Bool} {L : List Oper} (hs : l.lookup s = some (.bool q)) (ht : q = true → FrA ((s, .bool true) :: l) n a → wpListIn F m Tryd.prog ops Q L a w) (hf : q = false → FrA ((s, .bool false) :: l) n a → wpListIn F m Tryd.prog ops Q L a w) : wpListIn F m Tryd.prog ops Q L a w := by
  cases q
  · exact hf rfl (hA.add s _ (hA.get _ _ hs))
  · exact ht rfl (hA.add s _ (hA.get _ _ hs))

theorem V_callA (hF : WideF F) {f : Nat} {xs : Array Operand} {ts : Array TypeId} {ty : TypeId} {ps : String} {af : Array Edge} (hA : FrA l n a) (hdn : d < n) {args : Array Value} {v : Value} {S : World → Prop} (hcf : ∀ vs w, (callFunc f vs).run Tryd.prog w = .ok (.enter f vs) w) (hargs : xs.map a.eval = args)
    (hc : Calls Tryd.prog f args w fun e w' => e = .returned v ∧ S w') (h : ∀ w', S w' → ∀ a', FrA ((d, v) :: l) n a' → wpListIn F m Tryd.prog ops Q rest a' w') :
    wpListIn F m Tryd.prog ops Q ({ dst := some d, op := .call { callee := .value (.func f), args := xs, argTypes := ts }, type := ty, pos := ps, after := af, guard := none } :: rest) a w := by
  refine wpListIn_plain rfl fun K hK => ?_
  have e1 : execOp a.eval { dst := some d, op := .call { callee := .value (.func f), args := xs, argTypes := ts }, type := ty, pos := ps, after := af, guard := none } = callFunc f (#[] ++ xs.map a.eval ++ #[]) := rfl
  unfold Oper.wpIn
  rw [semAt_plain _ _ _ rfl, e1, hargs, Array.empty_append, Array.append_empty, hcf, Oper.uponIn_enter]
  refine ⟨fun f _ => hF.fn f, fun e => by rw [hF.dp] at e; (first | cases e | (simp at e)), (hF.calls hc).mono fun e w'' hh => ?_⟩
  obtain ⟨rfl, hs⟩ := hh
  exact hK _ _ (h _ hs _ (hA.put hdn v))

theorem V_st (hF : WideF F) (hA : FrA l n a) (hg : o.guard = none) (hd : o.dst = none) {T : TypeId} {x y : Operand} (ho : o.op = .store T x y) {p : Addr} {v : Value} {w' : World} (hx : evL l x = some (.pointer (some p))) (hy : evL l y = some v)
    (hs : (storeVar T p v).run Tryd.prog w = .ok () w') (h : wpListIn F m Tryd.prog ops Q rest a w') : wpListIn F m Tryd.prog ops Q (o :: rest) a w := by
  refine wpListIn_plain hg fun K hK => ?_
  unfold Oper.wpIn
  rw [semAt_plain _ _ _ (by rw [ho]; rfl)]
  refine ⟨fun f _ => hF.fn f, ?_⟩
  unfold execOp
  simp only [ho, hA.ev hx, hA.ev hy, Instr.storeAt, Instr.sureAddr, Sem.run_bind, Sem.run_pure, Result.andThen_ok, hs]
  have := hK _ _ h
  rw [show a = a.put o.dst undef by rw [hd]; rfl] at this
  exact this

theorem V_strow (hF : WideF F) (hA : FrA l n a) (hg : o.guard = none) (hd : o.dst = none) {T : TypeId} {x y : Operand} (ho : o.op = .store T x y) {b : Nat} {cs old : Array Value} (hx : evL l x = some (.pointer (some ⟨b, 0, none⟩))) (hy : evL l y = some (.agg cs))
    (hw : w.heap[b]? = some (.cells old T (0, 0))) (hi : (Tryd.prog.info? T).map (·.size) = some cs.size) (ho2 : old.size = cs.size) (h1 : cs.all (·.oneCell') = true) (h : wpListIn F m Tryd.prog ops Q rest a (w.setRow b cs)) : wpListIn F m Tryd.prog ops Q (o :: rest) a w :=
  V_st hF hA hg hd ho hx hy (run_storeVar_row w b T T old cs hw hi ho2 h1) h

/-- A guarded call of a yield. -/
theorem V_gyield (hF : WideF F) {s lp j dj : Nat} {want : Bool} {xs : Array Operand} {ts : Array TypeId} {args : Array Value} {A B : World → Prop} (hA : FrA l n a) (hg : o.guard = some (j, want)) (hdj : ((ops[j]?).bind (·.dst)) = some dj) (hq : l.lookup dj = some (.bool want)) (hd : o.dst = some d) (hdn : d < n) (ho : o.op = .call { callee := .value (.tmp s), args := xs, argTypes := ts })
    (hs : evL l (.tmp s) = some (.func (.yield lp) #[] #[])) (hargs : xs.map a.eval = args) (hY : YieldAt F (m - 1) Tryd.prog lp args w fun e w' => (e = .returned (.bool true) ∧ A w') ∨ (e = .returned (.bool false) ∧ B w'))
    (h : ∀ q w', (q = true → A w') → (q = false → B w') → ∀ a', FrA ((d, .bool q) :: l) n a' → wpListIn F m Tryd.prog ops Q rest a' w') : wpListIn F m Tryd.prog ops Q (o :: rest) a w := by
  refine wpListIn_step fun K hK => ?_
  rw [wanted_g hA hg hdj hq, if_pos (by simp)]
  obtain ⟨fn, tmps, assign, body, hy, hR⟩ := hY
  have e1 : (execOp a.eval o).run Tryd.prog w = .ok (.round lp fn tmps assign body) w := by
    unfold execOp
    simp only [ho, resolve, hA.ev hs, Deferred.ofValue, hargs, Sem.run_bind, Sem.run_pure, Result.andThen_ok, Array.empty_append, Array.append_empty, invoke]
    simpa using hy
  unfold Oper.wpIn
  rw [semAt_plain _ _ _ (by rw [ho]; rfl), e1, Oper.uponIn_round]
  refine ⟨fun f _ => hF.fn f, fun e => by rw [hF.dp] at e; (first | cases e | (simp at e)), hR.mono fun e w'' hh => ?_⟩
  rcases hh with ⟨rfl, hs⟩ | ⟨rfl, hs⟩
  · show K (a.put o.dst (.bool true)) w''
    rw [hd]
    exact hK _ _ (h true _ (fun _ => hs) (fun q => by cases q) _ (hA.put hdn _))
  · show K (a.put o.dst (.bool false)) w''
    rw [hd]
    exact hK _ _ (h false _ (fun q => by cases q) (fun _ => hs) _ (hA.put hdn _))

theorem V_boxH (hF : WideF F) (hA : FrA l n a) (hg : o.guard = none) (d : Nat) (hd : o.dst = some d) (hdn : d < n) {x : Operand} (ho : o.op = .box 25 x) {t : HS} (hx : evL l x = some (hartV t))
    (h : ∀ w' b a', FrA ((d, .pointer (some ⟨b, 0, none⟩)) :: l) n a' → Below w.heap.size w w' → HartB w' b t → w.heap.size ≤ b → wpListIn F m Tryd.prog ops Q rest a' w') : wpListIn F m Tryd.prog ops Q (o :: rest) a w :=
  V_val hF hA (by rw [ho]; rfl) hg d hd hdn _ _ (R_box hA ho hx w) fun a hA => h _ _ a hA ((Below.refl _ _).alloc (Nat.le_refl _) _) (HartB.new w t) (Nat.le_refl _)

theorem V_boxL (hF : WideF F) (hA : FrA l n a) (hg : o.guard = none) (d : Nat) (hd : o.dst = some d) (hdn : d < n) {x : Operand} (ho : o.op = .box 27 x) {t : LS} (hx : evL l x = some (linesV t))
    (h : ∀ w' b a', FrA ((d, .pointer (some ⟨b, 0, none⟩)) :: l) n a' → Below w.heap.size w w' → LnB w' b t → w.heap.size ≤ b → wpListIn F m Tryd.prog ops Q rest a' w') : wpListIn F m Tryd.prog ops Q (o :: rest) a w :=
  V_val hF hA (by rw [ho]; rfl) hg d hd hdn _ _ (R_box hA ho hx w) fun a hA => h _ _ a hA ((Below.refl _ _).alloc (Nat.le_refl _) _) (heap_alloc_new w _) (Nat.le_refl _)

theorem V_boxed {c : Code} (hA : FrA l n a) (h : ∀ a', FrA l n a' → c.wpIn F m Tryd.prog Q a' w) : c.wpIn F m Tryd.prog Q a w := h a hA

/-- A loop that counts. -/
theorem V_loop {c : Code} (s N : Nat) (I : Nat → Act → World → Prop) (hI : ∀ k a w, I k a w → ∃ ik, a.eval (.tmp s) = .int ik (k : Int)) (h0 : I 0 a w) (round : ∀ k a w, k ≤ N → I k a w → c.wpIn F m Tryd.prog (Exit.then (fun a' w' => k < N ∧ I (k + 1) a' w') Q) a w) : (Code.loop c).wpIn F m Tryd.prog Q a w := by
  have hc : ∀ k a w, I k a w → cntA a s = k := fun k a w h => by
    obtain ⟨ik, e⟩ := hI k a w h
    unfold cntA; rw [e]; simp
  refine wpIn_loop (fun a w => ∃ k, k ≤ N ∧ I k a w) (fun a w => N - cntA a s) ⟨0, Nat.zero_le _, h0⟩ (fun a w h => ?_)
  obtain ⟨k, hk, h⟩ := h
  refine wpIn_mono (round k a w hk h) ?_
  intro e a' w' q
  cases e with
  | normal =>
    obtain ⟨h1, h2⟩ := q
    refine ⟨⟨k + 1, h1, h2⟩, ?_⟩
    rw [hc _ _ _ h, hc _ _ _ h2]; omega
  | _ => exact q

end

section

variable {F : Fence} {m : Nat} {Q : Exit → Act → World → Prop} {w : World} {ops : Array Oper} {rest : List Oper} {o : Oper} {a : Act} {l : List (Nat × Value)} {n d : Nat}

/-- The same where a mark stands among the deferred calls. -/
theorem D_val (hF : WideF F) (hA : FrA l n { a with defers := [] }) (hnd : noDefer o.op = true) (hg : o.guard = none) (d : Nat) (hd : o.dst = some d) (hdn : d < n) (v : Value) (w' : World) (hrun : (execOp ({ a with defers := [] } : Act).eval o).run Tryd.prog w = .ok (.value v) w')
    (h : ∀ a', FrA ((d, v) :: l) n { a' with defers := [] } → a'.defers = a.defers → wpListIn F m Tryd.prog ops Q rest a' w') : wpListIn F m Tryd.prog ops Q (o :: rest) a w := by
  refine wpListIn_plain hg fun K hK => ?_
  unfold Oper.wpIn
  rw [semAt_plain _ _ _ hnd, show (execOp a.eval o).run Tryd.prog w = _ from hrun, Oper.uponIn_value, hd]
  exact ⟨fun f _ => hF.fn f, hK _ _ (h _ (hA.put hdn v) rfl)⟩

theorem D_strow (hF : WideF F) (hA : FrA l n { a with defers := [] }) (hg : o.guard = none) (hd : o.dst = none) {T : TypeId} {x y : Operand} (ho : o.op = .store T x y) {b : Nat} {cs old : Array Value} (hx : evL l x = some (.pointer (some ⟨b, 0, none⟩))) (hy : evL l y = some (.agg cs))
    (hw : w.heap[b]? = some (.cells old T (0, 0))) (hi : (Tryd.prog.info? T).map (·.size) = some cs.size) (ho2 : old.size = cs.size) (h1 : cs.all (·.oneCell') = true) (h : wpListIn F m Tryd.prog ops Q rest a (w.setRow b cs)) : wpListIn F m Tryd.prog ops Q (o :: rest) a w := by
  refine wpListIn_plain hg fun K hK => ?_
  have ex : a.eval x = .pointer (some ⟨b, 0, none⟩) := hA.ev hx
  have ey : a.eval y = .agg cs := hA.ev hy
  unfold Oper.wpIn
  rw [semAt_plain _ _ _ (by rw [ho]; rfl)]
  refine ⟨fun f _ => hF.fn f, ?_⟩
  unfold execOp
  simp only [ho, ex, ey, Instr.storeAt, Instr.sureAddr, Sem.run_bind, Sem.run_pure, Result.andThen_ok, run_storeVar_row w b T T old cs hw hi ho2 h1]
  have := hK _ _ h
  rw [show a = a.put o.dst undef by rw [hd]; rfl] at this
  exact this

end

/-- What leaves every old block as it was leaves alone what is no cells. -/
theorem KeepsOthers.of_below {w w' : World} (h : Below w.heap.size w w') : KeepsOthers w w' :=
  ⟨h.size, fun k o hk _ => (h.block k (Array.getElem?_eq_some_iff.1 hk).1).trans hk⟩

theorem KeepsOthers.of_tch {b : Nat} {w w' : World} {cs : Array Value} {T : TypeId} {q : Nat × Nat} (h : Tch b w w') (hb : w.heap[b]? = some (.cells cs T q)) : KeepsOthers w w' :=
  ⟨Nat.le_of_eq h.sz.symm, fun k o hk ho => by
    by_cases e : k = b
    · subst e; rw [hb] at hk; cases hk; cases ho
    · exact (h.oth k e).trans hk⟩

/-- A block of cells stays where a block that is none is turned. -/
theorem own_block {W W' : World} {row : Option Nat} {b : Nat} {cs : Array Value} {T : TypeId} {q : Nat × Nat} (h : W.heap[b]? = some (.cells cs T q)) (hg : W.grownBy W' row) (hr : ∀ r, row = some r → ∃ o : Obj, W.heap[r]? = some o ∧ o.isCells = false) : W'.heap[b]? = some (.cells cs T q) :=
  (grownBy_keeps_cells hg hr h rfl).trans h

end Go.Proofs.YthgjgloedlkaiaaDoor
