/- Layer 13: the program's Next (written by gen_iqg.py by walkf.py). -/
import Derived.Test.YthgjgloedlkaiaaDoorIqF
namespace Go.Proofs.YthgjgloedlkaiaaDoor
open Go.RowKit
set_option linter.unusedVariables false
set_option maxRecDepth 100000

def IntB (w : World) (b : Nat) (v : Int) : Prop := w.heap[b]? = some (.cells #[.int .i64 v] 3 (0, 0))
theorem IntB.lt {w : World} {b : Nat} {v : Int} (h : IntB w b v) : b < w.heap.size := (Array.getElem?_eq_some_iff.1 h).1
theorem IntB.below {w w' : World} {b : Nat} {v : Int} (h : IntB w b v) (o : Below w.heap.size w w') : IntB w' b v := (o.block b h.lt).trans h
theorem IntB.c {w : World} {b : Nat} {v : Int} (h : IntB w b v) : w.cell? ⟨b, 0, none⟩ = some (.int .i64 v) := by rw [cell_of_row w b 0 _ _ _ h]; rfl
theorem Tch.intB {b j : Nat} {w w' : World} {v : Int} (h : Tch b w w') (hj : IntB w j v) (hn : ¬ j = b) : IntB w' j v := (h.oth j hn).trans hj
def OpB (w : World) (b : Nat) (t : HS) : Prop := w.heap[b]? = some (.cells (opC t) 36 (0, 0))
theorem OpB.lt {w : World} {b : Nat} {t : HS} (h : OpB w b t) : b < w.heap.size := (Array.getElem?_eq_some_iff.1 h).1
theorem OpB.below {w w' : World} {b : Nat} {t : HS} (h : OpB w b t) (o : Below w.heap.size w w') : OpB w' b t := (o.block b h.lt).trans h
theorem Tch.opB {b j : Nat} {w w' : World} {t : HS} (h : Tch b w w') (hj : OpB w j t) (hn : ¬ j = b) : OpB w' j t := (h.oth j hn).trans hj
theorem OpB.c {w : World} {b : Nat} {t : HS} (h : OpB w b t) {k : Nat} (hk : k < 3) : w.cell? ⟨b, k, none⟩ = some (.bool (openZ t k)) := by
  rw [cell_of_row w b k _ _ _ h]
  rcases (show k = 0 ∨ k = 1 ∨ k = 2 by omega) with e | e | e <;> subst e <;> rfl
theorem ix_3 (b k : Nat) (hk : k < 3) (w : World) : (Instr.indexAt 36 (.pointer (some ⟨b, 0, none⟩)) (.int .i64 k)).run Tryd.prog w = .ok (.pointer (some ⟨b, k, none⟩)) w :=
  match k, hk with
  | 0, _ => by kernel_rfl
  | 1, _ => by kernel_rfl
  | 2, _ => by kernel_rfl
  | k + 3, h => absurd h (by omega)
theorem ag_i13 (w : World) : (isAgg 3).run Tryd.prog w = .ok false w := by kernel_rfl
section
variable {F : Fence} {m : Nat} {Q : Exit → Act → World → Prop} {w : World} {ops : Array Oper} {rest : List Oper} {o : Oper} {a : Act} {l : List (Nat × Value)} {n d : Nat}
theorem R_indexA {T : TypeId} (hA : FrA l n a) {x y : Operand} (ho : o.op = .indexAddr T x y) {u v r : Value} (hx : evL l x = some u) (hy : evL l y = some v) (hT : ∀ w, (Instr.indexAt T u v).run Tryd.prog w = .ok r w) (w : World) : (execOp a.eval o).run Tryd.prog w = .ok (.value r) w := by
  unfold execOp; simp only [ho, hA.ev hx, hA.ev hy, Sem.run_bind, hT, Result.andThen_ok, Sem.run_pure]
theorem R_allocI (hA : FrA l n a) (ho : o.op = .alloc 3) (w : World) : (execOp a.eval o).run Tryd.prog w = .ok (.value (.pointer (some ⟨w.heap.size, 0, none⟩))) (w.alloc (.cells #[.int .i64 0] 3)) := by
  unfold execOp; simp only [ho, Instr.alloc]; simp [go_sem, newVar, newRow, Value.cells]
theorem R_boxQ (hA : FrA l n a) {x : Operand} (ho : o.op = .box 22 x) {v : Int} (hx : evL l x = some (.int .u64 v)) (w : World) : (execOp a.eval o).run Tryd.prog w = .ok (.value (.pointer (some ⟨w.heap.size, 0, none⟩))) (w.alloc (.cells #[.int .u64 v] 22)) := by
  unfold execOp; simp only [ho, hA.ev hx, Sem.run_bind, Instr.box, newVar, newRow, run_newObj_alloc, Sem.run_pure, Result.andThen_ok, Value.cells]
theorem R_mk1 (hA : FrA l n a) {fn : Fn} {x : Operand} (ho : o.op = .makeFunc fn #[] #[x]) {u : Value} (hx : evL l x = some u) (w : World) : (execOp a.eval o).run Tryd.prog w = .ok (.value (.func fn #[] #[u])) w := by
  unfold execOp; simp only [ho, Instr.makeFunc, List.map_toArray, List.map_cons, List.map_nil, hA.ev hx]; rfl
theorem V_allocTr (hF : WideF F) (hA : FrA l n a) (hg : o.guard = none) (d : Nat) (hd : o.dst = some d) (hdn : d < n) (ho : o.op = .alloc 30)
    (h : ∀ w' b a', FrA ((d, .pointer (some ⟨b, 0, none⟩)) :: l) n a' → Below w.heap.size w w' → TrB w' b false 0 → w.heap.size ≤ b → wpListIn F m Tryd.prog ops Q rest a' w') : wpListIn F m Tryd.prog ops Q (o :: rest) a w :=
  V_val hF hA (by rw [ho]; rfl) hg d hd hdn _ _ (R_alloc hA ho zero_tr w) fun a hA => h _ _ a hA ((Below.refl _ _).alloc (Nat.le_refl _) _) (heap_alloc_new w _) (Nat.le_refl _)
theorem V_allocI (hF : WideF F) (hA : FrA l n a) (hg : o.guard = none) (d : Nat) (hd : o.dst = some d) (hdn : d < n) (ho : o.op = .alloc 3)
    (h : ∀ w' b a', FrA ((d, .pointer (some ⟨b, 0, none⟩)) :: l) n a' → Below w.heap.size w w' → IntB w' b 0 → w.heap.size ≤ b → wpListIn F m Tryd.prog ops Q rest a' w') : wpListIn F m Tryd.prog ops Q (o :: rest) a w :=
  V_val hF hA (by rw [ho]; rfl) hg d hd hdn _ _ (R_allocI hA ho w) fun a hA => h _ _ a hA ((Below.refl _ _).alloc (Nat.le_refl _) _) (heap_alloc_new w _) (Nat.le_refl _)
theorem V_alloc3 (hF : WideF F) (hA : FrA l n a) (hg : o.guard = none) (d : Nat) (hd : o.dst = some d) (hdn : d < n) (ho : o.op = .alloc 36)
    (h : ∀ w' b a', FrA ((d, .pointer (some ⟨b, 0, none⟩)) :: l) n a' → Below w.heap.size w w' → w'.heap[b]? = some (.cells #[.bool false, .bool false, .bool false] 36 (0, 0)) → w.heap.size ≤ b → wpListIn F m Tryd.prog ops Q rest a' w') : wpListIn F m Tryd.prog ops Q (o :: rest) a w :=
  V_val hF hA (by rw [ho]; rfl) hg d hd hdn _ _ (R_alloc hA ho zero_3 w) fun a hA => h _ _ a hA ((Below.refl _ _).alloc (Nat.le_refl _) _) (heap_alloc_new w _) (Nat.le_refl _)
theorem V_cpTr (hF : WideF F) (hA : FrA l n a) (hg : o.guard = none) (hd : o.dst = none) {x y : Operand} (ho : o.op = .store 30 x y) {b : Nat} {q r : Bool} {c e : Int} (hx : evL l x = some (.pointer (some ⟨b, 0, none⟩))) (hy : evL l y = some (trapV r e)) (hb : TrB w b q c)
    (h : ∀ w', Tch b w w' → TrB w' b r e → wpListIn F m Tryd.prog ops Q rest a w') : wpListIn F m Tryd.prog ops Q (o :: rest) a w :=
  V_strow hF hA hg hd ho hx hy hb (size_tr r e) rfl (one_tr r e) (h _ (Tch.setRow _) (setRow_heap _ _ _ _ _ _ hb))
theorem V_cp3 (hF : WideF F) (hA : FrA l n a) (hg : o.guard = none) (hd : o.dst = none) {x y : Operand} (ho : o.op = .store 36 x y) {b : Nat} {t : HS} {old : Array Value} (hx : evL l x = some (.pointer (some ⟨b, 0, none⟩))) (hy : evL l y = some (.agg (opC t))) (hb : w.heap[b]? = some (.cells old 36 (0, 0))) (hs : old.size = 3)
    (h : ∀ w', Tch b w w' → OpB w' b t → wpListIn F m Tryd.prog ops Q rest a w') : wpListIn F m Tryd.prog ops Q (o :: rest) a w :=
  V_strow hF hA hg hd ho hx hy hb (size_3 _ _ _) hs (by simp [Value.oneCell', opC]) (h _ (Tch.setRow _) (setRow_heap _ _ _ _ _ _ hb))
theorem V_stI (hF : WideF F) (hA : FrA l n a) (hg : o.guard = none) (hd : o.dst = none) {x y : Operand} (ho : o.op = .store 3 x y) {b : Nat} {u v : Int} (hx : evL l x = some (.pointer (some ⟨b, 0, none⟩))) (hy : evL l y = some (.int .i64 v)) (hb : IntB w b u)
    (h : ∀ w', Tch b w w' → IntB w' b v → wpListIn F m Tryd.prog ops Q rest a w') : wpListIn F m Tryd.prog ops Q (o :: rest) a w := by
  have hfz : w.frozen? ⟨b, 0, none⟩ = false := frozen_of_row w b 0 _ _ hb
  refine V_st hF hA hg hd ho hx hy (w' := w.setCell ⟨b, 0, none⟩ (.int .i64 v)) (by simp [go_sem, storeVar, hb.c, hfz]) (h _ (Tch.setCell _) ?_)
  unfold IntB
  rw [heap_setCell_same w b _ _ _ _ hb]; rfl
end

set_option maxHeartbeats 8000000 in
theorem inOrder_any (x : Int) (w : World) : Calls Tryd.prog 17 #[.int .u64 x] w fun e w' => e = .returned (.func (.func 26) #[] #[.pointer (some ⟨w.heap.size, 0, none⟩)]) ∧ (Below w.heap.size w w' ∧ w'.heap[w.heap.size]? = some (.cells #[.int .u64 x] 22 (0, 0))) := by
  have HB := Below.refl w.heap.size w
  go_enter Tryd.func17, Tryd.ntmps17
  refine begin_fr [(0, .int .u64 x)] 4 ?_ (fun a hA => ?_)
  · exact FrA.add (FrA.nil (by rfl) (by rfl)) 0 _ (by rfl)
  refine wp_seq ?_
  refine wp_region_list ?_
  refine W_val hA rfl 1 rfl (by decide) _ _ (R_boxQ hA rfl rfl _) (fun a hA => ?_)
  refine W_val hA rfl 2 rfl (by decide) _ _ (R_asg hA rfl rfl _) (fun a hA => ?_)
  refine W_nil ?_
  refine then_nrm ?_
  show Code.wp Tryd.prog _ _ _ _
  refine wp_seq ?_
  refine wp_region_list ?_
  refine W_val hA rfl 3 rfl (by decide) _ _ (R_mk1 hA rfl rfl _) (fun a hA => ?_)
  refine W_val hA rfl 2 rfl (by decide) _ _ (R_asg hA rfl rfl _) (fun a hA => ?_)
  refine W_nil ?_
  refine then_nrm ?_
  show Code.wp Tryd.prog _ _ _ _
  refine wp_ret ?_
  exact ret_tmp (j := 2) (by kernel_rfl) hA (by decide) rfl ⟨rfl, (Below.refl _ _).alloc (Nat.le_refl _) _, heap_alloc_new w _⟩
set_option maxHeartbeats 8000000 in
/-- The program's Next. -/
theorem next_any (t : HS) (ok : HOk t) (l : LS) (w : World) (hTab : Tab w) : Calls Tryd.prog 9 #[hartV t, linesV l] w fun e w' => e = .returned (trO (nextZ t l)) ∧ Below w.heap.size w w' := by
  have HB := Below.refl w.heap.size w
  have wF := wide0
  refine callsIn_wide (n := 10) |>.1 (callsIn_of_wp_marks Tryd.func9 rfl trivial ?_ rfl)
  simp only [Tryd.ntmps9, List.size_toArray, List.length_cons, List.length_nil, Nat.reduceAdd, Nat.reduceSub, Array.replicate_succ, Array.replicate_zero, List.push_toArray, List.append_toArray, List.nil_append, List.cons_append]
  refine V_boxed (l := [(1, linesV l), (0, hartV t)]) (n := 34) ?_ (fun a hA => ?_)
  · exact FrA.add (FrA.add (FrA.nil (by rfl) (by rfl)) 0 _ (by rfl)) 1 _ (by rfl)
  refine wpIn_seq ?_
  refine wpIn_region_list ?_
  refine V_boxH wF hA rfl 2 rfl (by decide) rfl rfl (fun w1 bHH a hA hb HH gHH => ?_)
  replace gHH := Nat.le_trans HB.size gHH
  replace HB := HB.trans (hb.mono HB.size)
  clear hb
  refine V_boxL wF hA rfl 3 rfl (by decide) rfl rfl (fun w2 bLL a hA hb LL gLL => ?_)
  have nHHLL : bHH < bLL := by have := HH.lt; omega
  replace HH := HH.below hb
  replace gLL := Nat.le_trans HB.size gLL
  replace HB := HB.trans (hb.mono HB.size)
  clear hb
  refine V_allocTr wF hA rfl 4 rfl (by decide) rfl (fun w3 bRR a hA hb RR gRR => ?_)
  have nHHRR : bHH < bRR := by have := HH.lt; omega
  replace HH := HH.below hb
  have nLLRR : bLL < bRR := by have := LL.lt; omega
  replace LL := LL.below hb
  replace gRR := Nat.le_trans HB.size gRR
  replace HB := HB.trans (hb.mono HB.size)
  clear hb
  refine V_nil ?_
  refine then_nrm ?_
  show Code.wpIn _ _ Tryd.prog _ _ _ _
  refine wpIn_seq ?_
  refine wpIn_region_list ?_
  refine V_val wF hA rfl rfl 10 rfl (by decide) _ _ (R_build (ps := []) hA rfl [] rfl bld_tr0 _) (fun a hA => ?_)
  refine V_allocTr wF hA rfl 5 rfl (by decide) rfl (fun w4 bT5 a hA hb T5 gT5 => ?_)
  have nHHT5 : bHH < bT5 := by have := HH.lt; omega
  replace HH := HH.below hb
  have nLLT5 : bLL < bT5 := by have := LL.lt; omega
  replace LL := LL.below hb
  have nRRT5 : bRR < bT5 := by have := RR.lt; omega
  replace RR := RR.below hb
  replace gT5 := Nat.le_trans HB.size gT5
  replace HB := HB.trans (hb.mono HB.size)
  clear hb
  refine V_allocI wF hA rfl 6 rfl (by decide) rfl (fun w5 bI6 a hA hb I6 gI6 => ?_)
  have nHHI6 : bHH < bI6 := by have := HH.lt; omega
  replace HH := HH.below hb
  have nLLI6 : bLL < bI6 := by have := LL.lt; omega
  replace LL := LL.below hb
  have nRRI6 : bRR < bI6 := by have := RR.lt; omega
  replace RR := RR.below hb
  have nT5I6 : bT5 < bI6 := by have := T5.lt; omega
  replace T5 := T5.below hb
  replace gI6 := Nat.le_trans HB.size gI6
  replace HB := HB.trans (hb.mono HB.size)
  clear hb
  refine V_cpTr wF hA rfl rfl rfl rfl rfl T5 (fun w6 hT HN => ?_)
  replace HB := HB.trans (hT.bel _ gT5)
  replace HH := hT.hart HH (by omega)
  replace LL := hT.lines LL (by omega)
  replace RR := hT.trap RR (by omega)
  replace I6 := hT.intB I6 (by omega)
  replace T5 := HN
  clear hT HN
  refine V_stI wF hA rfl rfl rfl rfl rfl I6 (fun w7 hT HN => ?_)
  replace HB := HB.trans (hT.bel _ gI6)
  replace HH := hT.hart HH (by omega)
  replace LL := hT.lines LL (by omega)
  replace RR := hT.trap RR (by omega)
  replace T5 := hT.trap T5 (by omega)
  replace I6 := HN
  clear hT HN
  refine V_nil ?_
  refine then_nrm ?_
  show Code.wpIn _ _ Tryd.prog _ _ _ _
  refine wpIn_seq ?_
  refine wpIn_region_list ?_
  refine V_val wF hA rfl rfl 11 rfl (by decide) _ _ (R_row hA rfl rfl HH Tryd.underlying25 (size_hart.trans (by rw [varr_size]))) (fun a hA => ?_)
  refine V_callA wF hA (by decide) (fun _ _ => by kernel_rfl) (args1 hA rfl) (open_any t ok _) (fun w8 hw a hA => ?_)
  replace HB := HB.trans (hw.mono HB.size)
  replace HH := HH.below hw
  replace LL := LL.below hw
  replace RR := RR.below hw
  replace T5 := T5.below hw
  replace I6 := I6.below hw
  clear hw
  refine V_alloc3 wF hA rfl 7 rfl (by decide) rfl (fun w9 bO7 a hA hb O7 gO7 => ?_)
  have nHHO7 : bHH < bO7 := by have := HH.lt; omega
  replace HH := HH.below hb
  have nLLO7 : bLL < bO7 := by have := LL.lt; omega
  replace LL := LL.below hb
  have nRRO7 : bRR < bO7 := by have := RR.lt; omega
  replace RR := RR.below hb
  have nT5O7 : bT5 < bO7 := by have := T5.lt; omega
  replace T5 := T5.below hb
  have nI6O7 : bI6 < bO7 := by have := I6.lt; omega
  replace I6 := I6.below hb
  replace gO7 := Nat.le_trans HB.size gO7
  replace HB := HB.trans (hb.mono HB.size)
  clear hb
  refine V_cp3 wF hA rfl rfl rfl rfl rfl O7 rfl (fun w10 hT HN => ?_)
  replace HB := HB.trans (hT.bel _ gO7)
  replace HH := hT.hart HH (by omega)
  replace LL := hT.lines LL (by omega)
  replace RR := hT.trap RR (by omega)
  replace T5 := hT.trap T5 (by omega)
  replace I6 := hT.intB I6 (by omega)
  replace O7 := HN
  clear hT HN
  refine V_nil ?_
  refine then_nrm ?_
  show Code.wpIn _ _ Tryd.prog _ _ _ _
  refine wpIn_seq ?_
  refine wpIn_seq ?_
  refine wpIn_region_list ?_
  refine V_val wF hA rfl rfl 13 rfl (by decide) _ _ (R_row hA rfl rfl HH Tryd.underlying25 (size_hart.trans (by rw [varr_size]))) (fun a hA => ?_)
  refine V_val wF hA rfl rfl 14 rfl (by decide) _ _ (R_row hA rfl rfl LL Tryd.underlying27 (by kernel_rfl)) (fun a hA => ?_)
  refine V_callA wF hA (by decide) (fun _ _ => by kernel_rfl) (args2 hA rfl rfl) (asks_any t ok l _) (fun w11 hw a hA => ?_)
  replace HB := HB.trans (hw.mono HB.size)
  replace HH := HH.below hw
  replace LL := LL.below hw
  replace RR := RR.below hw
  replace T5 := T5.below hw
  replace I6 := I6.below hw
  replace O7 := O7.below hw
  clear hw
  refine V_callA wF hA (by decide) (fun _ _ => by kernel_rfl) (args1 hA rfl) (inOrder_any _ _) (fun w12 hw a hA => ?_)
  obtain ⟨hw, hq⟩ := hw
  replace HB := HB.trans (hw.mono HB.size)
  replace HH := HH.below hw
  replace LL := LL.below hw
  replace RR := RR.below hw
  replace T5 := T5.below hw
  replace I6 := I6.below hw
  replace O7 := O7.below hw
  clear hw
  refine V_nil ?_
  refine then_nrm ?_
  show Code.wpIn _ _ Tryd.prog _ _ _ _
  refine wpIn_block ?_
  obtain ⟨tm, df⟩ := a
  obtain rfl : df = [] := hA.df
  have hgs := HB.size
  refine wpIn_rangeFunc_ownF (F := Fence.wide) rfl (by decide) (gf := 26) (lb := #[.pointer (some ⟨_, 0, none⟩)]) (hA.get 16 _ rfl) trivial (fun _ _ => by kernel_rfl) (order_stops (asksZ t l) (asks_in t l) _ _ _ hq (hTab.below HB)) (fun h k => walksK_t h k) walksK_b (Below.refl _ _) (fun _ => rfl)
    (fun pre W => HartB W bHH t ∧ TrB W bT5 (numO (accO t pre)).isSome (causeZ (numO (accO t pre))) ∧ IntB W bI6 (lvO t (accO t pre) : Nat) ∧ OpB W bO7 t ∧ TrB W bRR false 0 ∧ Below w.heap.size w W)
    (fun _ _ _ => False) ?hI (fun _ _ _ _ _ hs _ _ => hs) ⟨HH, T5, I6, O7, RR, HB⟩ (fun f => ((⟨tm, []⟩ : Act).put (some 17) (.int .u64 (f.val : Int))).put (some 8) (.int .u64 (f.val : Int))) ?assign ?body ?done ?stop
  case hI =>
    rintro s W W' row ⟨h1, h2, h3, h4, h5, h6⟩ hg hr
    have hr' : ∀ r, row = some r → ∃ o : Obj, W.heap[r]? = some o ∧ o.isCells = false := fun r e => (hr r e).2
    exact ⟨own_block h1 hg hr', own_block h2 hg hr', own_block h3 hg hr', own_block h4 hg hr', own_block h5 hg hr', h6.grown hg h6.size (fun k e => Nat.le_trans hgs (hr k e).1)⟩
  case assign =>
    intro lp f W K hK
    have ez : #[17].zip #[Value.int .u64 (f.val : Int)] = #[(17, Value.int .u64 (f.val : Int))] := by simp [Array.zip]
    rw [ez]
    show Code.wpIn _ _ Tryd.prog _ _ ((⟨tm, []⟩ : Act).put (some 17) (.int .u64 (f.val : Int))) W
    have hA17 := hA.put (e := 17) (by decide) (.int .u64 (f.val : Int))
    refine wpIn_region_list (wpListIn_plain rfl fun K' hK' => ?_)
    unfold Oper.wpIn
    refine ⟨fun _ _ => trivial, ?_⟩
    rw [semAt_plain _ _ _ rfl, R_asg hA17 rfl rfl W, Oper.uponIn_value]
    exact hK' _ _ (V_nil (then_nrm hK))
  case stop =>
    rintro D c pre W _ _ h _
    exact h.elim
  case done =>
    intro D xs W hD hS hI hK
    subst hS
    obtain ⟨HH, T5, I6, O7, RR, HB⟩ := hI
    refine blk_nrm ?_
    refine then_nrm ?_
    show Code.wpIn _ _ Tryd.prog _ _ _ _
    refine wpIn_seq (wpIn_region_list ?_)
    refine D_val wF hA rfl rfl 33 rfl (by decide) _ _ (R_row hA rfl rfl T5 Tryd.underlying30 (size_tr _ _)) (fun a1 hA1 e1 => ?_)
    refine D_strow wF hA1 rfl rfl rfl rfl rfl RR (size_tr _ _) rfl (one_tr _ _) ?_
    refine V_nil ?_
    refine then_nrm ?_
    refine wpIn_ret ?_
    show LeavesInM _ _ _ _ a1.tmps _ a1.defers .returning _
    rw [e1]
    have RR2 : TrB (W.setRow bRR (trC (numO (accO t (iterL (asksZ t l)))).isSome (causeZ (numO (accO t (iterL (asksZ t l))))))) bRR (numO (accO t (iterL (asksZ t l)))).isSome (causeZ (numO (accO t (iterL (asksZ t l))))) := setRow_heap _ _ _ _ _ _ RR
    have hT : Tch bRR W (W.setRow bRR (trC (numO (accO t (iterL (asksZ t l)))).isSome (causeZ (numO (accO t (iterL (asksZ t l))))))) := Tch.setRow _
    have hK2 := (KeepsOthers.of_tch hT RR).same D _ hK rfl
    refine ⟨by simp, .inl ⟨_, _, rfl, run_takeDeferred hK2, ?_⟩⟩
    refine ⟨_, results_cell_row (by kernel_rfl) _ _ bRR 30 _ (0, 0) _ (hA1.get 4 _ rfl) (own_block RR2 (grownBy_putObj' _ D _) (fun r e => by cases e; exact ⟨_, hK2, rfl⟩)) Tryd.underlying30 rfl (size_tr _ _), ?_, ?_⟩
    · rw [← acc_next]; rfl
    · exact ((HB.trans (hT.bel _ gRR))).trans (belowK_b (w := w) (Nat.le_refl _) _ D _ _ (by omega) hK2 rfl rfl)
  case body =>
    intro lp pre f W hI hlen
    obtain ⟨HH, T5, I6, O7, RR, HB⟩ := hI
    clear hq
    have wF := wideR lp
    have KO := KeepsOthers.refl W
    refine V_boxed ((hA.put (e := 17) (by decide) (.int .u64 (f.val : Int))).put (e := 8) (by decide) (.int .u64 (f.val : Int))) (fun a hA => ?_)
    refine wpIn_block ?_
    refine wpIn_seq ?_
    refine wpIn_region_list ?_
    refine V_val wF hA rfl rfl 18 rfl (by decide) _ _ (R_row hA rfl rfl HH Tryd.underlying25 (size_hart.trans (by rw [varr_size]))) (fun a hA => ?_)
    refine V_val wF hA rfl rfl 19 rfl (by decide) _ _ (R_mov hA rfl rfl _) (fun a hA => ?_)
    refine V_callA wF hA (by decide) (fun _ _ => by kernel_rfl) (args2 hA rfl rfl) (level_any t ok f.val f.isLt _) (fun w13 hw a hA => ?_)
    replace KO := KO.trans (KeepsOthers.of_below hw)
    replace HB := HB.trans (hw.mono HB.size)
    replace HH := HH.below hw
    replace T5 := T5.below hw
    replace I6 := I6.below hw
    replace O7 := O7.below hw
    replace RR := RR.below hw
    clear hw
    refine V_val wF hA rfl rfl 9 rfl (by decide) _ _ (R_asg hA rfl rfl _) (fun a hA => ?_)
    refine V_nil ?_
    refine then_nrm ?_
    show Code.wpIn _ _ Tryd.prog _ _ _ _
    refine wpIn_seq ?_
    refine wpIn_region_list ?_
    refine V_val wF hA rfl rfl 21 rfl (by decide) _ _ (R_mov hA rfl rfl _) (fun a hA => ?_)
    refine V_val wF hA rfl rfl 22 rfl (by decide) _ _ (R_ld hA rfl rfl ag_i13 I6.c) (fun a hA => ?_)
    refine V_val wF hA rfl rfl 23 rfl (by decide) _ _ (R_lssI hA rfl rfl rfl _) (fun a hA => ?_)
    refine V_val wF hA rfl rfl 24 rfl (by decide) _ _ (R_mov hA rfl rfl _) (fun a hA => ?_)
    refine V_split hA 24 rfl (fun c1 hA => ?_) (fun c1 hA => ?_)
    · skip
      refine V_gval wF hA rfl rfl rfl rfl 25 rfl (by decide) _ _ (R_mov hA rfl rfl _) (fun a hA => ?_)
      refine V_gval wF hA rfl rfl rfl rfl 26 rfl (by decide) _ _ (R_indexA hA rfl rfl rfl (fun w => ix_3 _ _ (lvl_lt _ _) w) _) (fun a hA => ?_)
      refine V_gval wF hA rfl rfl rfl rfl 27 rfl (by decide) _ _ (R_ld hA rfl rfl ag_bool (O7.c (lvl_lt _ _))) (fun a hA => ?_)
      refine V_val wF hA rfl rfl 28 rfl (by decide) _ _ (R_pick hA rfl rfl rfl _) (fun a hA => ?_)
      refine V_nil ?_
      refine then_nrm ?_
      show Code.wpIn _ _ Tryd.prog _ _ _ _
      refine wpIn_cond_split (hA.ev (x := .tmp 28) rfl) (fun c2 => ?_) (fun c2 => ?_)
      · skip
        refine wpIn_region_list ?_
        refine V_val wF hA rfl rfl 29 rfl (by decide) _ _ (R_mov hA rfl rfl _) (fun a hA => ?_)
        refine V_val wF hA rfl rfl 30 rfl (by decide) _ _ (R_or hA rfl rfl rfl _) (fun a hA => ?_)
        refine V_val wF hA rfl rfl 31 rfl (by decide) _ _ (R_build (ps := [(0, .const (.bool true)), (1, .tmp 30)]) hA rfl [(0, .bool true), (1, .int .u64 _)] rfl (bld_tr1 _) _) (fun a hA => ?_)
        refine V_val wF hA rfl rfl 32 rfl (by decide) _ _ (R_mov hA rfl rfl _) (fun a hA => ?_)
        refine V_cpTr wF hA rfl rfl rfl rfl rfl T5 (fun w14 hT HN => ?_)
        replace HB := HB.trans (hT.bel _ gT5)
        replace KO := KO.trans (KeepsOthers.of_tch hT T5)
        replace HH := hT.hart HH (by omega)
        replace I6 := hT.intB I6 (by omega)
        replace O7 := hT.opB O7 (by omega)
        replace RR := hT.trap RR (by omega)
        replace T5 := HN
        clear hT HN
        refine V_stI wF hA rfl rfl rfl rfl rfl I6 (fun w15 hT HN => ?_)
        replace HB := HB.trans (hT.bel _ gI6)
        replace KO := KO.trans (KeepsOthers.of_tch hT I6)
        replace HH := hT.hart HH (by omega)
        replace T5 := hT.trap T5 (by omega)
        replace O7 := hT.opB O7 (by omega)
        replace RR := hT.trap RR (by omega)
        replace I6 := HN
        clear hT HN
        refine V_nil ?_
        refine blk_nrm ?_
        have es : stepO t (accO t pre) f = some f := by
          unfold stepO
          have h1 := of_decide_eq_true c1
          rw [if_pos (by rw [c2, Bool.and_true, decide_eq_true_eq]; omega)]
        rw [or_cause f.val f.isLt] at T5
        refine ⟨KO, KO.walks, HH, ?_, ?_, O7, RR, HB⟩
        · rw [accO_snoc, es]; exact T5
        · rw [accO_snoc, es]; exact I6
      refine wpIn_skip ?_
      refine blk_nrm ?_
      have es : stepO t (accO t pre) f = accO t pre := by
        unfold stepO
        rw [if_neg (by rw [c2, Bool.and_false]; decide)]
      refine ⟨KO, KO.walks, HH, ?_, ?_, O7, RR, HB⟩
      · rw [accO_snoc, es]; exact T5
      · rw [accO_snoc, es]; exact I6
    refine V_gskip wF hA rfl rfl rfl 25 rfl (by decide) (fun a hA => ?_)
    refine V_gskip wF hA rfl rfl rfl 26 rfl (by decide) (fun a hA => ?_)
    refine V_gskip wF hA rfl rfl rfl 27 rfl (by decide) (fun a hA => ?_)
    refine V_val wF hA rfl rfl 28 rfl (by decide) _ _ (R_pick hA rfl rfl rfl _) (fun a hA => ?_)
    refine V_nil ?_
    refine then_nrm ?_
    show Code.wpIn _ _ Tryd.prog _ _ _ _
    refine wpIn_cond_false (hA.ev (x := .tmp 28) rfl) ?_
    refine wpIn_skip ?_
    refine blk_nrm ?_
    have es : stepO t (accO t pre) f = accO t pre := by
      unfold stepO
      have h1 := of_decide_eq_false c1
      rw [if_neg (by rw [Bool.and_eq_true, decide_eq_true_eq]; omega)]
    refine ⟨KO, KO.walks, HH, ?_, ?_, O7, RR, HB⟩
    · rw [accO_snoc, es]; exact T5
    · rw [accO_snoc, es]; exact I6
end Go.Proofs.YthgjgloedlkaiaaDoor
