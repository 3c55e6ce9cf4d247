/- Layer 13: the program's iterator over the interrupts in their order (written by gen_iqf.py by walkf.py). -/
import Derived.Test.YthgjgloedlkaiaaDoorIqE
import Derived.Test.YthgjgloedlkaiaaDoorWkR
import Derived.Test.YthgjgloedlkaiaaDoorWk6
namespace Go.Proofs.YthgjgloedlkaiaaDoor
open Go.RowKit
set_option linter.unusedVariables false
set_option maxRecDepth 100000

def ordQ : Array Value := #[.int .u64 11, .int .u64 3, .int .u64 7, .int .u64 9, .int .u64 1, .int .u64 5, .int .u64 12, .int .u64 10, .int .u64 2, .int .u64 6]
/-- The program's table of the order stands in memory. -/
def Tab (w : World) : Prop := ∃ t fr, w.heap[0]? = some (.cells ordQ t fr)
theorem Tab.below {w w' : World} (h : Tab w) (o : Below w.heap.size w w') : Tab w' := by
  obtain ⟨t, fr, h⟩ := h
  exact ⟨t, fr, (o.block _ (Array.getElem?_eq_some_iff.1 h).1).trans h⟩
theorem size_ord : (Tryd.prog.info? 50).map (·.size) = some ordQ.size := by kernel_rfl
theorem ix_ord (k : Nat) (hk : k < 10) (w : World) : (Instr.index 50 (.agg ordQ) (.int .i64 k)).run Tryd.prog w = .ok (.int .u64 ((ordN k).val : Int)) w :=
  match k, hk with
  | 0, _ => by kernel_rfl
  | 1, _ => by kernel_rfl
  | 2, _ => by kernel_rfl
  | 3, _ => by kernel_rfl
  | 4, _ => by kernel_rfl
  | 5, _ => by kernel_rfl
  | 6, _ => by kernel_rfl
  | 7, _ => by kernel_rfl
  | 8, _ => by kernel_rfl
  | 9, _ => by kernel_rfl
  | k + 10, h => absurd h (by omega)
section
variable {w : World} {o : Oper} {a : Act} {l : List (Nat × Value)} {n : Nat}
theorem R_tab (ho : o.op = .load 50 (.global 0)) (ht : Tab w) : (execOp a.eval o).run Tryd.prog w = .ok (.value (.agg ordQ)) w := by
  obtain ⟨t, fr, h⟩ := ht
  unfold execOp
  simp only [ho, Act.eval, Instr.loadAt, Instr.sureAddr, Sem.run_bind, Sem.run_pure, Result.andThen_ok, run_loadVar_row w _ t 50 ordQ fr _ h Tryd.underlying50 rfl size_ord]
theorem R_shrY (hA : FrA l n a) {x y : Operand} (ho : o.op = .binOp .shr 22 x y 22) {u : Int} {k : Nat} (hx : evL l x = some (.int .u64 u)) (h0 : In64 u) (hk : k ≤ 64) (hy : evL l y = some (.int .u64 (k : Int))) (w : World) : (execOp a.eval o).run Tryd.prog w = .ok (.value (.int .u64 (u / 2 ^ k))) w := by
  by_cases h : k < 64
  · exact R_shrX hA ho hx h0.1 h hy w
  · obtain rfl : k = 64 := by omega
    have e : u / 2 ^ 64 = 0 := by
      have := h0.1; have := h0.2
      exact Int.ediv_eq_zero_of_lt h0.1 h0.2
    rw [e]
    have h1 := h0.1
    unfold execOp; simp only [ho, hA.ev hx, hA.ev hy]; simp [go_sem]
    omega
end
theorem wrap_upQ {k : Nat} (h : k < 1000000) : IntKind.u64.wrap ((k : Int) + 1) = ((k + 1 : Nat) : Int) := by
  rw [IntKind.wrap_u64]; omega
set_option maxHeartbeats 8000000 in
/-- The iterator: it hands out what asks, in its order, to whatever body. -/
theorem order_stops (x : Int) (hx : In64 x) (m : Nat) (w : World) (b : Nat) (hb : w.heap[b]? = some (.cells #[.int .u64 x] 22 (0, 0))) (ht : Tab w) :
    SeqStopsK Fence.wide m Tryd.prog 26 #[.pointer (some ⟨b, 0, none⟩)] (fun f : Fin 64 => #[.int .u64 (f.val : Int)]) KeepsWalks (fun xs => xs = iterL x) (fun _ => True) 100 w := by
  intro lp J Jx W hW hJa hJx hY h0
  have wF := wide0
  have ht1 := ht.below hW
  have hc : W.cell? ⟨b, 0, none⟩ = some (.int .u64 x) := by
    rw [cell_of_row W b 0 _ _ _ ((hW.block b (Array.getElem?_eq_some_iff.1 hb).1).trans hb)]; rfl
  clear hJa hJx hW
  refine callsIn_of_wp Tryd.func26 rfl trivial ?_ rfl
  simp only [Tryd.ntmps26, List.size_toArray, List.length_cons, List.length_nil, Nat.reduceAdd, Nat.reduceSub, Array.replicate_succ, Array.replicate_zero, List.push_toArray, List.append_toArray, List.nil_append, List.cons_append]
  refine V_boxed (l := [(1, .pointer (some ⟨b, 0, none⟩)), (0, .func (.yield lp) #[] #[])]) (n := 45) ?_ (fun a hA => ?_)
  · exact FrA.add (FrA.add (FrA.nil (by rfl) (by rfl)) 0 _ (by rfl)) 1 _ (by rfl)
  refine wpIn_seq ?_
  refine wpIn_region_list ?_
  refine V_val wF hA rfl rfl 7 rfl (by decide) _ _ (R_ld hA rfl rfl ag_u64 hc) (fun a hA => ?_)
  refine V_val wF hA rfl rfl 3 rfl (by decide) _ _ (R_asg hA rfl rfl _) (fun a hA => ?_)
  refine V_nil ?_
  refine then_nrm ?_
  show Code.wpIn _ _ Tryd.prog _ _ _ _
  refine wpIn_seq ?_
  refine wpIn_seq ?_
  refine wpIn_region_list ?_
  refine V_val wF hA rfl rfl 8 rfl (by decide) _ _ (R_tab rfl ht1) (fun a hA => ?_)
  refine V_val wF hA rfl rfl 9 rfl (by decide) _ _ (R_mov hA rfl rfl _) (fun a hA => ?_)
  refine V_nil ?_
  refine then_nrm ?_
  show Code.wpIn _ _ Tryd.prog _ _ _ _
  refine wpIn_block ?_
  refine V_loop 9 10 (fun k a' w' => FrA [(9, .int .i64 (k : Int)), (3, .int .u64 (restZ x k)), (8, .agg ordQ), (0, .func (.yield lp) #[] #[])] 45 a' ∧ J (preA x k) w') (fun k a' w' h => ⟨_, h.1.get 9 _ rfl⟩) ⟨FrA.add (FrA.add (FrA.add (FrA.add (FrA.nil hA.sz hA.df) 0 _ (hA.get 0 _ rfl)) 8 _ (hA.get 8 _ rfl)) 3 _ (hA.get 3 _ rfl)) 9 _ (hA.get 9 _ rfl), h0⟩ (fun k a w5 hk10 h => ?_)
  obtain ⟨hA, hJ⟩ := h
  refine wpIn_seq ?_
  refine wpIn_region_list ?_
  refine V_val wF hA rfl rfl 10 rfl (by decide) _ _ (R_lssI hA rfl rfl rfl _) (fun a hA => ?_)
  refine V_nil ?_
  refine then_nrm ?_
  show Code.wpIn _ _ Tryd.prog _ _ _ _
  refine wpIn_seq ?_
  refine wpIn_cond_split (hA.ev (x := .tmp 10) rfl) (fun c1 => ?_) (fun c1 => ?_)
  · skip
    have hk : k < 10 := by have := of_decide_eq_true c1; omega
    refine wpIn_skip ?_
    refine then_nrm ?_
    show Code.wpIn _ _ Tryd.prog _ _ _ _
    refine wpIn_seq ?_
    refine wpIn_block ?_
    refine wpIn_seq ?_
    refine wpIn_region_list ?_
    refine V_val wF hA rfl rfl 11 rfl (by decide) _ _ (R_index hA rfl rfl rfl (fun w => ix_ord k hk w) _) (fun a hA => ?_)
    refine V_val wF hA rfl rfl 5 rfl (by decide) _ _ (R_asg hA rfl rfl _) (fun a hA => ?_)
    refine V_nil ?_
    refine then_nrm ?_
    show Code.wpIn _ _ Tryd.prog _ _ _ _
    refine wpIn_seq ?_
    refine wpIn_seq ?_
    refine wpIn_region_list ?_
    refine V_val wF hA rfl rfl 12 rfl (by decide) _ _ (R_mov hA rfl rfl _) (fun a hA => ?_)
    refine V_val wF hA rfl rfl 13 rfl (by decide) _ _ (R_mov hA rfl rfl _) (fun a hA => ?_)
    refine V_val wF hA rfl rfl 14 rfl (by decide) _ _ (R_shrX hA rfl rfl (rest_in hx _).1 (ordN k).isLt rfl _) (fun a hA => ?_)
    refine V_val wF hA rfl rfl 15 rfl (by decide) _ _ (R_and hA rfl rfl rfl _) (fun a hA => ?_)
    refine V_val wF hA rfl rfl 16 rfl (by decide) _ _ (R_eqlU hA rfl rfl rfl _) (fun a hA => ?_)
    refine V_val wF hA rfl rfl 17 rfl (by decide) _ _ (R_mov hA rfl rfl _) (fun a hA => ?_)
    refine V_split hA 17 rfl (fun c2 hA => ?_) (fun c2 hA => ?_)
    · skip
      refine V_gval wF hA rfl rfl rfl rfl 18 rfl (by decide) _ _ (R_mov hA rfl rfl _) (fun a hA => ?_)
      refine V_gval wF hA rfl rfl rfl rfl 19 rfl (by decide) _ _ (R_mov hA rfl rfl _) (fun a hA => ?_)
      have eb : bitZ (restZ x k) (ordN k).val = true := (has_bit (rest_in hx k) _).symm.trans c2
      refine V_gyield wF hA rfl rfl rfl rfl (by decide) rfl rfl (args1 hA rfl) (hY (preA x k) (ordN k) _ hJ (by have := pre_len x k 0; rw [List.length_append] at this; omega)) (fun q w6 hT hFl a hA => ?_)
      refine V_gval wF hA rfl rfl rfl rfl 21 rfl (by decide) _ _ (R_not hA rfl rfl _) (fun a hA => ?_)
      refine V_val wF hA rfl rfl 22 rfl (by decide) _ _ (R_pick hA rfl rfl rfl _) (fun a hA => ?_)
      refine V_nil ?_
      refine then_nrm ?_
      show Code.wpIn _ _ Tryd.prog _ _ _ _
      refine wpIn_cond_split (hA.ev (x := .tmp 22) rfl) (fun c3 => ?_) (fun c3 => ?_)
      · skip
        have hq : q = false := by simpa using c3
        refine wpIn_ret ?_
        refine then_ret ?_
        refine blk_ret ?_
        refine then_ret ?_
        refine then_ret ?_
        refine blk_ret ?_
        refine then_ret ?_
        exact ⟨hA.df, _, results_none rfl _ _ _, ⟨_, rfl⟩, .inr ⟨_, trivial, hFl hq⟩⟩
      have hq : q = true := by simpa using c3
      obtain ⟨hJ6, hk6⟩ := hT hq
      refine wpIn_skip ?_
      refine then_nrm ?_
      show Code.wpIn _ _ Tryd.prog _ _ _ _
      refine wpIn_region_list ?_
      refine V_val wF hA rfl rfl 23 rfl (by decide) _ _ (R_mov hA rfl rfl _) (fun a hA => ?_)
      refine V_val wF hA rfl rfl 24 rfl (by decide) _ _ (R_mov hA rfl rfl _) (fun a hA => ?_)
      refine V_val wF hA rfl rfl 25 rfl (by decide) _ _ (R_shlX hA rfl (ordN k).isLt rfl rfl _) (fun a hA => ?_)
      refine V_val wF hA rfl rfl 26 rfl (by decide) _ _ (R_andNot hA rfl rfl rfl _) (fun a hA => ?_)
      refine V_val wF hA rfl rfl 3 rfl (by decide) _ _ (R_asg hA rfl rfl _) (fun a hA => ?_)
      refine V_nil ?_
      refine blk_nrm ?_
      refine then_nrm ?_
      show Code.wpIn _ _ Tryd.prog _ _ _ _
      refine wpIn_region_list ?_
      refine V_val wF hA rfl rfl 27 rfl (by decide) _ _ (R_addI hA rfl rfl rfl _) (fun a hA => ?_)
      refine V_val wF hA rfl rfl 9 rfl (by decide) _ _ (R_mov hA rfl rfl _) (fun a hA => ?_)
      refine V_nil ?_
      refine then_nrm ?_
      refine ⟨hk, FrA.add (FrA.add (FrA.add (FrA.add (FrA.nil hA.sz hA.df) 0 _ (hA.get 0 _ rfl)) 8 _ (hA.get 8 _ rfl)) 3 _ (hA.get 3 _ rfl)) 9 _ ((hA.get 9 _ rfl).trans (congrArg (Value.int .i64) (wrap_upI (by omega)))), by rw [preA_yes hk eb]; exact hJ6⟩
    refine V_gskip wF hA rfl rfl rfl 18 rfl (by decide) (fun a hA => ?_)
    refine V_gskip wF hA rfl rfl rfl 19 rfl (by decide) (fun a hA => ?_)
    refine V_gskip wF hA rfl rfl rfl 20 rfl (by decide) (fun a hA => ?_)
    refine V_gskip wF hA rfl rfl rfl 21 rfl (by decide) (fun a hA => ?_)
    refine V_val wF hA rfl rfl 22 rfl (by decide) _ _ (R_pick hA rfl rfl rfl _) (fun a hA => ?_)
    refine V_nil ?_
    refine then_nrm ?_
    show Code.wpIn _ _ Tryd.prog _ _ _ _
    refine wpIn_cond_false (hA.ev (x := .tmp 22) rfl) ?_
    refine wpIn_skip ?_
    refine then_nrm ?_
    show Code.wpIn _ _ Tryd.prog _ _ _ _
    refine wpIn_region_list ?_
    refine V_val wF hA rfl rfl 23 rfl (by decide) _ _ (R_mov hA rfl rfl _) (fun a hA => ?_)
    refine V_val wF hA rfl rfl 24 rfl (by decide) _ _ (R_mov hA rfl rfl _) (fun a hA => ?_)
    refine V_val wF hA rfl rfl 25 rfl (by decide) _ _ (R_shlX hA rfl (ordN k).isLt rfl rfl _) (fun a hA => ?_)
    refine V_val wF hA rfl rfl 26 rfl (by decide) _ _ (R_andNot hA rfl rfl rfl _) (fun a hA => ?_)
    refine V_val wF hA rfl rfl 3 rfl (by decide) _ _ (R_asg hA rfl rfl _) (fun a hA => ?_)
    refine V_nil ?_
    refine blk_nrm ?_
    refine then_nrm ?_
    show Code.wpIn _ _ Tryd.prog _ _ _ _
    refine wpIn_region_list ?_
    refine V_val wF hA rfl rfl 27 rfl (by decide) _ _ (R_addI hA rfl rfl rfl _) (fun a hA => ?_)
    refine V_val wF hA rfl rfl 9 rfl (by decide) _ _ (R_mov hA rfl rfl _) (fun a hA => ?_)
    refine V_nil ?_
    refine then_nrm ?_
    refine ⟨hk, FrA.add (FrA.add (FrA.add (FrA.add (FrA.nil hA.sz hA.df) 0 _ (hA.get 0 _ rfl)) 8 _ (hA.get 8 _ rfl)) 3 _ (hA.get 3 _ rfl)) 9 _ ((hA.get 9 _ rfl).trans (congrArg (Value.int .i64) (wrap_upI (by omega)))), by rw [preA_no hk ((has_bit (rest_in hx k) _).symm.trans c2)]; exact hJ⟩
  have ek : k = 10 := by have := of_decide_eq_false c1; omega
  subst ek
  refine wpIn_exit ?_
  refine then_ext ?_
  refine then_ext ?_
  refine blk_eq ?_
  refine then_nrm ?_
  show Code.wpIn _ _ Tryd.prog _ _ _ _
  refine wpIn_seq ?_
  refine wpIn_region_list ?_
  refine V_val wF hA rfl rfl 6 rfl (by decide) _ _ (R_asg hA rfl rfl _) (fun a hA => ?_)
  refine V_nil ?_
  refine then_nrm ?_
  show Code.wpIn _ _ Tryd.prog _ _ _ _
  refine wpIn_block ?_
  refine V_loop 6 64 (fun k a' w' => FrA [(6, .int .u64 (k : Int)), (3, .int .u64 (restZ x 10)), (0, .func (.yield lp) #[] #[])] 45 a' ∧ J (preA x 10 ++ preB x k) w') (fun k a' w' h => ⟨_, h.1.get 6 _ rfl⟩) ⟨FrA.add (FrA.add (FrA.add (FrA.nil hA.sz hA.df) 0 _ (hA.get 0 _ rfl)) 3 _ (hA.get 3 _ rfl)) 6 _ (hA.get 6 _ rfl), by rw [show preB x 0 = [] from rfl, List.append_nil]; exact hJ⟩ (fun k a w5 hk64 h => ?_)
  obtain ⟨hA, hJ⟩ := h
  refine wpIn_seq ?_
  refine wpIn_seq ?_
  refine wpIn_region_list ?_
  refine V_val wF hA rfl rfl 28 rfl (by decide) _ _ (R_mov hA rfl rfl _) (fun a hA => ?_)
  refine V_val wF hA rfl rfl 29 rfl (by decide) _ _ (R_mov hA rfl rfl _) (fun a hA => ?_)
  refine V_val wF hA rfl rfl 30 rfl (by decide) _ _ (R_shrY hA rfl rfl (rest_in hx 10) hk64 rfl _) (fun a hA => ?_)
  refine V_val wF hA rfl rfl 31 rfl (by decide) _ _ (R_neqU hA rfl rfl rfl _) (fun a hA => ?_)
  refine V_nil ?_
  refine then_nrm ?_
  show Code.wpIn _ _ Tryd.prog _ _ _ _
  refine wpIn_cond_split (hA.ev (x := .tmp 31) rfl) (fun c4 => ?_) (fun c4 => ?_)
  · skip
    have hk : k < 64 := by
      by_cases h64 : k < 64
      · exact h64
      · obtain rfl : k = 64 := by omega
        have e : restZ x 10 / 2 ^ 64 = 0 := Int.ediv_eq_zero_of_lt (rest_in hx 10).1 (rest_in hx 10).2
        rw [e] at c4; exact absurd c4 (by decide)
    refine wpIn_skip ?_
    refine then_nrm ?_
    show Code.wpIn _ _ Tryd.prog _ _ _ _
    refine wpIn_seq ?_
    refine wpIn_block ?_
    refine wpIn_seq ?_
    refine wpIn_region_list ?_
    refine V_val wF hA rfl rfl 34 rfl (by decide) _ _ (R_mov hA rfl rfl _) (fun a hA => ?_)
    refine V_val wF hA rfl rfl 35 rfl (by decide) _ _ (R_mov hA rfl rfl _) (fun a hA => ?_)
    refine V_val wF hA rfl rfl 36 rfl (by decide) _ _ (R_shrX hA rfl rfl (rest_in hx _).1 hk rfl _) (fun a hA => ?_)
    refine V_val wF hA rfl rfl 37 rfl (by decide) _ _ (R_and hA rfl rfl rfl _) (fun a hA => ?_)
    refine V_val wF hA rfl rfl 38 rfl (by decide) _ _ (R_eqlU hA rfl rfl rfl _) (fun a hA => ?_)
    refine V_val wF hA rfl rfl 39 rfl (by decide) _ _ (R_mov hA rfl rfl _) (fun a hA => ?_)
    refine V_split hA 39 rfl (fun c5 hA => ?_) (fun c5 hA => ?_)
    · skip
      refine V_gval wF hA rfl rfl rfl rfl 40 rfl (by decide) _ _ (R_mov hA rfl rfl _) (fun a hA => ?_)
      refine V_gval wF hA rfl rfl rfl rfl 41 rfl (by decide) _ _ (R_mov hA rfl rfl _) (fun a hA => ?_)
      have eb : bitZ (restZ x 10) k = true := (has_bit (rest_in hx 10) _).symm.trans c5
      refine V_gyield wF hA rfl rfl rfl rfl (by decide) rfl rfl (args1 hA rfl) (hY (preA x 10 ++ preB x k) ⟨k, hk⟩ _ hJ (pre_len x 10 k)) (fun q w6 hT hFl a hA => ?_)
      refine V_gval wF hA rfl rfl rfl rfl 43 rfl (by decide) _ _ (R_not hA rfl rfl _) (fun a hA => ?_)
      refine V_val wF hA rfl rfl 44 rfl (by decide) _ _ (R_pick hA rfl rfl rfl _) (fun a hA => ?_)
      refine V_nil ?_
      refine then_nrm ?_
      show Code.wpIn _ _ Tryd.prog _ _ _ _
      refine wpIn_cond_split (hA.ev (x := .tmp 44) rfl) (fun c6 => ?_) (fun c6 => ?_)
      · skip
        have hq : q = false := by simpa using c6
        refine wpIn_ret ?_
        refine blk_ret ?_
        refine then_ret ?_
        refine then_ret ?_
        refine blk_ret ?_
        exact ⟨hA.df, _, results_none rfl _ _ _, ⟨_, rfl⟩, .inr ⟨_, trivial, hFl hq⟩⟩
      have hq : q = true := by simpa using c6
      obtain ⟨hJ6, hk6⟩ := hT hq
      refine wpIn_skip ?_
      refine blk_nrm ?_
      refine then_nrm ?_
      show Code.wpIn _ _ Tryd.prog _ _ _ _
      refine wpIn_region_list ?_
      refine V_val wF hA rfl rfl 32 rfl (by decide) _ _ (R_mov hA rfl rfl _) (fun a hA => ?_)
      refine V_val wF hA rfl rfl 33 rfl (by decide) _ _ (R_add hA rfl rfl rfl _) (fun a hA => ?_)
      refine V_val wF hA rfl rfl 6 rfl (by decide) _ _ (R_asg hA rfl rfl _) (fun a hA => ?_)
      refine V_nil ?_
      refine then_nrm ?_
      refine ⟨hk, FrA.add (FrA.add (FrA.add (FrA.nil hA.sz hA.df) 0 _ (hA.get 0 _ rfl)) 3 _ (hA.get 3 _ rfl)) 6 _ ((hA.get 6 _ rfl).trans (congrArg (Value.int .u64) (wrap_upQ (by omega)))), by rw [preB_yes hk eb, ← List.append_assoc]; exact hJ6⟩
    refine V_gskip wF hA rfl rfl rfl 40 rfl (by decide) (fun a hA => ?_)
    refine V_gskip wF hA rfl rfl rfl 41 rfl (by decide) (fun a hA => ?_)
    refine V_gskip wF hA rfl rfl rfl 42 rfl (by decide) (fun a hA => ?_)
    refine V_gskip wF hA rfl rfl rfl 43 rfl (by decide) (fun a hA => ?_)
    refine V_val wF hA rfl rfl 44 rfl (by decide) _ _ (R_pick hA rfl rfl rfl _) (fun a hA => ?_)
    refine V_nil ?_
    refine then_nrm ?_
    show Code.wpIn _ _ Tryd.prog _ _ _ _
    refine wpIn_cond_false (hA.ev (x := .tmp 44) rfl) ?_
    refine wpIn_skip ?_
    refine blk_nrm ?_
    refine then_nrm ?_
    show Code.wpIn _ _ Tryd.prog _ _ _ _
    refine wpIn_region_list ?_
    refine V_val wF hA rfl rfl 32 rfl (by decide) _ _ (R_mov hA rfl rfl _) (fun a hA => ?_)
    refine V_val wF hA rfl rfl 33 rfl (by decide) _ _ (R_add hA rfl rfl rfl _) (fun a hA => ?_)
    refine V_val wF hA rfl rfl 6 rfl (by decide) _ _ (R_asg hA rfl rfl _) (fun a hA => ?_)
    refine V_nil ?_
    refine then_nrm ?_
    refine ⟨hk, FrA.add (FrA.add (FrA.add (FrA.nil hA.sz hA.df) 0 _ (hA.get 0 _ rfl)) 3 _ (hA.get 3 _ rfl)) 6 _ ((hA.get 6 _ rfl).trans (congrArg (Value.int .u64) (wrap_upQ (by omega)))), by rw [preB_no hk ((has_bit (rest_in hx 10) _).symm.trans c5)]; exact hJ⟩
  have ez : restZ x 10 / 2 ^ k = 0 := by simpa using c4
  refine wpIn_exit ?_
  refine then_ext ?_
  refine then_ext ?_
  refine blk_eq ?_
  exact ⟨hA.df, _, results_none rfl _ _ _, ⟨_, rfl⟩, .inl ⟨_, rfl, by rw [← iter_end hx hk64 ez]; exact hJ⟩⟩
end Go.Proofs.YthgjgloedlkaiaaDoor
