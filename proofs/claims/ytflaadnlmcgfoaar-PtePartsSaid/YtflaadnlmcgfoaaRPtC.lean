/- Layer 15: awake; what the laws need (written by gen_ptc.py by walkt.py). -/
import Derived.Test.YtflaadnlmcgfoaaRPtB
namespace Go.Proofs.YtflaadnlmcgfoaaR
open Go.RowKit
set_option linter.unusedVariables false
set_option maxRecDepth 100000

theorem make_to {p f : Int} (hp : In64 p) (hf : In64 f) {r : Int} (h : makeZ p f = r) (w : World) : Calls Try.prog 14 #[.int .u64 p, .int .u64 f] w fun e w' => e = .returned (.int .u64 r) ∧ Below w.heap.size w w' := h ▸ make_any p f hp hf w
theorem page_to {x : Int} (hx : In64 x) {r : Int} (h : pageZ x = r) (w : World) : Calls Try.prog 20 #[.int .u64 x] w fun e w' => e = .returned (.int .u64 r) ∧ Below w.heap.size w w' := h ▸ page_any x hx w
theorem leaf_to {x : Int} (hx : In64 x) {r : Bool} (h : leafB x = r) (w : World) : Calls Try.prog 10 #[.int .u64 x] w fun e w' => e = .returned (.bool r) ∧ Below w.heap.size w w' := h ▸ leaf_any x hx w
theorem ok_to {x : Int} (hx : In64 x) {r : Bool} (h : okB x = r) (w : World) : Calls Try.prog 11 #[.int .u64 x] w fun e w' => e = .returned (.bool r) ∧ Below w.heap.size w w' := h ▸ ok_any x hx w
theorem allow_to {x : Int} {s : WS} (hx : In64 x) (sk : WOk s) {r : Bool} (h : allowB x s = r) (w : World) : Calls Try.prog 12 #[.int .u64 x, wantV s] w fun e w' => e = .returned (.bool r) ∧ Below w.heap.size w w' := h ▸ allow_any x s hx sk w
theorem full_to {x : Int} {s : WS} (hx : In64 x) (sk : WOk s) {r : Bool} (h : fullB x s = r) (w : World) : Calls Try.prog 24 #[.int .u64 x, wantV s] w fun e w' => e = .returned (.bool r) ∧ Below w.heap.size w w' := h ▸ full_any x s hx sk w
theorem judge_to {x lv : Int} {s : WS} (hx : In64 x) (sk : WOk s) {r : Int} (h : judgeZ x lv s = r) (w : World) : Calls Try.prog 13 #[.int .u64 x, .int .i64 lv, wantV s] w fun e w' => e = .returned (.int .i64 r) ∧ Below w.heap.size w w' := h ▸ judge_any x lv s hx sk w
theorem index_to {a lv : Int} (ha : In64 a) {r : Int} (h : indexZ a lv = r) (w : World) : Calls Try.prog 16 #[.int .u64 a, .int .i64 lv] w fun e w' => e = .returned (.int .u64 r) ∧ Below w.heap.size w w' := h ▸ index_any a lv ha w
theorem pa_to {x lv a : Int} (hx : In64 x) (ha : In64 a) {r : Int} (h : paZ x lv a = r) (w : World) : Calls Try.prog 17 #[.int .u64 x, .int .i64 lv, .int .u64 a] w fun e w' => e = .returned (.int .u64 r) ∧ Below w.heap.size w w' := h ▸ pa_any x lv a hx ha w
theorem wok_lit (k p : Int) (e v s m x : Bool) (hk : 0 ≤ k ∧ k < 256) (hp : 0 ≤ p ∧ p < 256) : WOk ⟨k, e, p, v, s, m, x⟩ := ⟨hk, hp⟩
section
variable {w : World} {o : Oper} {a : Act} {l : List (Nat × Value)} {n : Nat}
theorem R_andI (hA : FrA l n a) {x y : Operand} (ho : o.op = .binOp .and 3 x y 3) {u v : Int} (hx : evL l x = some (.int .i64 u)) (hy : evL l y = some (.int .i64 v)) (w : World) : (execOp a.eval o).run Try.prog w = .ok (.value (.int .i64 (bits .and .i64 u v))) w := by
  unfold execOp; simp only [ho, hA.ev hx, hA.ev hy]; simp [go_sem]
theorem R_shrIU (hA : FrA l n a) {x y : Operand} (ho : o.op = .binOp .shr 3 x y 37) {u : Int} (k : Nat) (hx : evL l x = some (.int .i64 u)) (hk : k < 64) (hy : evL l y = some (.int .u64 (k : Int))) (w : World) : (execOp a.eval o).run Try.prog w = .ok (.value (.int .i64 (u / 2 ^ k))) w := by
  unfold execOp; simp only [ho, hA.ev hx, hA.ev hy]; simp [go_sem, hk]
theorem R_remIT (hA : FrA l n a) {x y : Operand} (ho : o.op = .binOp .rem 3 x y 3) {u m : Int} (h0 : 0 ≤ u) (hm : 0 < m ∧ m < 1000000) (hx : evL l x = some (.int .i64 u)) (hy : evL l y = some (.int .i64 m)) (r : Int) (hr : u % m = r) (w : World) : (execOp a.eval o).run Try.prog w = .ok (.value (.int .i64 r)) w := by
  subst hr
  have e : u.tmod m = u % m := Int.tmod_eq_emod_of_nonneg h0
  have h1 : 0 ≤ u % m := Int.emod_nonneg _ (by omega)
  have h2 : u % m < m := Int.emod_lt_of_pos _ hm.1
  have e2 : IntKind.i64.wrap (u % m) = u % m := IntWalk.i64_in _ (by omega)
  have e3 : ¬ m = 0 := by omega
  unfold execOp; simp only [ho, hA.ev hx, hA.ev hy]; simp [go_sem, e, e2, e3]
theorem R_mulIT (hA : FrA l n a) {x y : Operand} (ho : o.op = .binOp .mul 3 x y 3) {u v : Int} (hx : evL l x = some (.int .i64 u)) (hy : evL l y = some (.int .i64 v)) (r : Int) (hr : IntKind.i64.wrap (u * v) = r) (w : World) : (execOp a.eval o).run Try.prog w = .ok (.value (.int .i64 r)) w := by
  subst hr
  unfold execOp; simp only [ho, hA.ev hx, hA.ev hy]; simp [go_sem]
theorem R_cvIUT (hA : FrA l n a) {x : Operand} (ho : o.op = .convert 3 37 x) {u : Int} (hx : evL l x = some (.int .i64 u)) (r : Int) (hr : IntKind.u64.wrap u = r) (w : World) : (execOp a.eval o).run Try.prog w = .ok (.value (.int .u64 r)) w := by
  subst hr
  unfold execOp; simp only [ho, hA.ev hx]; simp [go_sem]
theorem R_geqUT (hA : FrA l n a) {x y : Operand} (ho : o.op = .binOp .geq 23 x y 23) {u v : Int} (hx : evL l x = some (.int .u64 u)) (hy : evL l y = some (.int .u64 v)) (q : Bool) (hq : decide (v ≤ u) = q) (w : World) : (execOp a.eval o).run Try.prog w = .ok (.value (.bool q)) w := by
  subst hq; exact R_geqU hA ho hx hy w
theorem R_gtrIT (hA : FrA l n a) {x y : Operand} (ho : o.op = .binOp .gtr 3 x y 3) {u v : Int} (hx : evL l x = some (.int .i64 u)) (hy : evL l y = some (.int .i64 v)) (q : Bool) (hq : decide (v < u) = q) (w : World) : (execOp a.eval o).run Try.prog w = .ok (.value (.bool q)) w := by
  subst hq; exact R_gtrI hA ho hx hy w
theorem R_gtrBT (hA : FrA l n a) {x y : Operand} (ho : o.op = .binOp .gtr 5 x y 5) {u v : Int} (hx : evL l x = some (.int .u8 u)) (hy : evL l y = some (.int .u8 v)) (q : Bool) (hq : decide (v < u) = q) (w : World) : (execOp a.eval o).run Try.prog w = .ok (.value (.bool q)) w := by
  subst hq; exact R_gtrB hA ho hx hy w
theorem R_shrT (hA : FrA l n a) {x y : Operand} (ho : o.op = .binOp .shr 23 x y 37) {u : Int} (k : Nat) (hx : evL l x = some (.int .u64 u)) (h0 : 0 ≤ u) (hk : k < 64) (hy : evL l y = some (.int .u64 (k : Int))) (r : Int) (hr : u / 2 ^ k = r) (w : World) : (execOp a.eval o).run Try.prog w = .ok (.value (.int .u64 r)) w := by
  subst hr; exact R_shrN hA ho k hx h0 hk hy w
theorem R_shlT (hA : FrA l n a) {x y : Operand} (ho : o.op = .binOp .shl 23 x y 37) {u : Int} (k : Nat) (hx : evL l x = some (.int .u64 u)) (hk : k < 64) (hy : evL l y = some (.int .u64 (k : Int))) (r : Int) (hr : IntKind.u64.wrap (u * 2 ^ k) = r) (w : World) : (execOp a.eval o).run Try.prog w = .ok (.value (.int .u64 r)) w := by
  subst hr
  unfold execOp; simp only [ho, hA.ev hx, hA.ev hy]; simp [go_sem, hk]
theorem R_andT (hA : FrA l n a) {x y : Operand} (ho : o.op = .binOp .and 23 x y 23) {u v : Int} (hx : evL l x = some (.int .u64 u)) (hy : evL l y = some (.int .u64 v)) (r : Int) (hr : bits .and .u64 u v = r) (w : World) : (execOp a.eval o).run Try.prog w = .ok (.value (.int .u64 r)) w := by
  subst hr; exact R_and hA ho hx hy w
end
set_option maxHeartbeats 8000000 in
theorem awake_any (w : World) : Calls Try.prog 15 #[] w fun e w' => e = .returned (.bool true) ∧ Below w.heap.size w w' := by
  have HB := Below.refl w.heap.size w
  go_enter Try.func15, Try.ntmps15
  refine begin_fr [] 21 ?_ (fun a hA => ?_)
  · exact FrA.nil (by rfl) (by rfl)
  refine wp_seq ?_
  refine wp_region_list ?_
  refine W_val hA rfl 0 rfl (by decide) _ _ (R_asg hA rfl rfl _) (fun a hA => ?_)
  refine W_nil ?_
  refine then_nrm ?_
  show Code.wp Try.prog _ _ _ _
  refine wp_seq ?_
  refine wp_region_list ?_
  refine W_callA hA (by decide) (fun _ _ => by kernel_rfl) (args2 hA rfl rfl) (make_to (r := 5327) (by unfold In64; decide) (by unfold In64; decide) (by decide +kernel) _) (fun w1 hw a hA => ?_)
  replace HB := HB.trans (hw.mono HB.size)
  clear hw
  refine W_val hA rfl 1 rfl (by decide) _ _ (R_asg hA rfl rfl _) (fun a hA => ?_)
  refine W_nil ?_
  refine then_nrm ?_
  show Code.wp Try.prog _ _ _ _
  refine wp_seq ?_
  refine wp_region_list ?_
  refine W_val hA rfl 3 rfl (by decide) _ _ (R_mov hA rfl rfl _) (fun a hA => ?_)
  refine W_val hA rfl 4 rfl (by decide) _ _ (R_eqlUT hA rfl rfl rfl true (by decide +kernel) _) (fun a hA => ?_)
  refine W_val hA rfl 5 rfl (by decide) _ _ (R_mov hA rfl rfl _) (fun a hA => ?_)
  refine W_gval hA rfl rfl rfl 6 rfl (by decide) _ _ (R_mov hA rfl rfl _) (fun a hA => ?_)
  refine W_gcallB hA rfl rfl (by decide) (fun _ _ => by kernel_rfl) (args1 hA rfl) (page_to (r := 5) (by unfold In64; decide) (by decide +kernel) _) (fun w2 hw a hA => ?_)
  replace HB := HB.trans (hw.mono HB.size)
  clear hw
  refine W_gval hA rfl rfl rfl 8 rfl (by decide) _ _ (R_eqlUT hA rfl rfl rfl true (by decide +kernel) _) (fun a hA => ?_)
  refine W_val hA rfl 9 rfl (by decide) _ _ (R_pick hA rfl rfl rfl _) (fun a hA => ?_)
  refine W_val hA rfl 10 rfl (by decide) _ _ (R_mov hA rfl rfl _) (fun a hA => ?_)
  refine W_gval hA rfl rfl rfl 11 rfl (by decide) _ _ (R_mov hA rfl rfl _) (fun a hA => ?_)
  refine W_gval hA rfl rfl rfl 12 rfl (by decide) _ _ (R_build (ps := [(2, .const (.int .u8 1))]) hA rfl [(2, .int .u8 1)] rfl (cs := wantC ⟨0, false, 1, false, false, false, false⟩) (by kernel_rfl) _) (fun a hA => ?_)
  refine W_gcallB hA rfl rfl (by decide) (fun _ _ => by kernel_rfl) (args3 hA rfl rfl rfl) (judge_to (r := 2) (by unfold In64; decide) (wok_lit _ _ _ _ _ _ _ (by decide) (by decide)) (by decide +kernel) _) (fun w3 hw a hA => ?_)
  replace HB := HB.trans (hw.mono HB.size)
  clear hw
  refine W_gval hA rfl rfl rfl 14 rfl (by decide) _ _ (R_eqlIT hA rfl rfl rfl true (by decide) _) (fun a hA => ?_)
  refine W_val hA rfl 15 rfl (by decide) _ _ (R_pick hA rfl rfl rfl _) (fun a hA => ?_)
  refine W_val hA rfl 16 rfl (by decide) _ _ (R_mov hA rfl rfl _) (fun a hA => ?_)
  refine W_gval hA rfl rfl rfl 17 rfl (by decide) _ _ (R_build (ps := []) hA rfl [] rfl (cs := wantC ⟨0, false, 0, false, false, false, false⟩) (by kernel_rfl) _) (fun a hA => ?_)
  refine W_gcallB hA rfl rfl (by decide) (fun _ _ => by kernel_rfl) (args3 hA rfl rfl rfl) (judge_to (r := 1) (by unfold In64; decide) (wok_lit _ _ _ _ _ _ _ (by decide) (by decide)) (by decide +kernel) _) (fun w4 hw a hA => ?_)
  replace HB := HB.trans (hw.mono HB.size)
  clear hw
  refine W_gval hA rfl rfl rfl 19 rfl (by decide) _ _ (R_eqlIT hA rfl rfl rfl true (by decide) _) (fun a hA => ?_)
  refine W_val hA rfl 20 rfl (by decide) _ _ (R_pick hA rfl rfl rfl _) (fun a hA => ?_)
  refine W_val hA rfl 0 rfl (by decide) _ _ (R_asg hA rfl rfl _) (fun a hA => ?_)
  refine W_nil ?_
  refine then_nrm ?_
  show Code.wp Try.prog _ _ _ _
  refine wp_ret ?_
  exact ret_tmp (j := 0) (by kernel_rfl) hA (by decide) rfl ⟨rfl, HB⟩
end Go.Proofs.YtflaadnlmcgfoaaR
