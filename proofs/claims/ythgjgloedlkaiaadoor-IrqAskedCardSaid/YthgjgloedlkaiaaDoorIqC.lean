/- Layer 13: what asks, levels, ranks: the contracts (written by gen_iqc.py by walkf.py). -/
import Derived.Test.YthgjgloedlkaiaaDoorIqA
import Derived.Test.YthgjgloedlkaiaaDoorCsE
import Derived.Test.YthgjgloedlkaiaaDoorWk9
import Derived.Test.YthgjgloedlkaiaaDoorCsKa
namespace Go.Proofs.YthgjgloedlkaiaaDoor
open Go.RowKit
set_option linter.unusedVariables false
set_option maxRecDepth 100000

theorem has_bit0 {x : Int} (hx : In64 x) (k : Nat) : (bits .and .u64 (x / 2 ^ k) 1 == 0) = !bitZ x k := by
  rw [bits_and, shr_eq hx, V_U, V_one]
  have h := bit_and1 (V x) k
  show (U (V x >>> k &&& 1#64) == 0) = !(V x).getLsbD k
  rw [← h]
  have h2 : U (V x >>> k &&& 1#64) = 0 ∨ U (V x >>> k &&& 1#64) = 1 := by
    have e : (V x >>> k &&& 1#64).toNat ≤ 1 := by rw [BitVec.toNat_and]; exact Nat.and_le_right
    unfold U; omega
  rcases h2 with h2 | h2 <;> rw [h2] <;> rfl
theorem lv_1 (lv : Nat) : ((lv : Int) = 1) = (lv = 1) := propext ⟨fun h => by omega, fun h => by omega⟩
theorem lv_0 (lv : Nat) : ((lv : Int) = 0) = (lv = 0) := propext ⟨fun h => by omega, fun h => by omega⟩
theorem bit3_ne (x : Int) : (bits .and .u64 x 8 != 0) = bitZ x 3 := by
  have := and_bit (x := x) 3 (by omega)
  rw [show (2 : Int) ^ 3 = 8 from rfl] at this
  rw [bne, this, Bool.not_not]
theorem zero_3 (w : World) : (zeroValue 36).run Tryd.prog w = .ok (.agg #[.bool false, .bool false, .bool false]) w := by kernel_rfl
theorem size_3 (x y z : Bool) : (Tryd.prog.info? 36).map (·.size) = some (#[Value.bool x, .bool y, .bool z] : Array Value).size := by kernel_rfl
theorem bld3a (x : Bool) : Tryd.prog.built 36 [(0, .bool x)] = some #[.bool x, .bool false, .bool false] := by kernel_rfl
theorem bld3b (x y z : Bool) : Tryd.prog.built 36 [(0, .bool x), (1, .bool y), (2, .bool z)] = some #[.bool x, .bool y, .bool z] := by kernel_rfl
/-- Which levels are open, as a row. -/
def opC (t : HS) : Array Value := #[.bool (openZ t 0), .bool (openZ t 1), .bool (openZ t 2)]

section
variable {Q : Exit → Act → World → Prop} {w : World} {ops : Array Oper} {rest : List Oper} {o : Oper} {a : Act} {l : List (Nat × Value)} {n d : Nat}
theorem W_st3 (hA : FrA l n a) (hg : o.guard = none) (hd : o.dst = none) {x y : Operand} (ho : o.op = .store 36 x y) {b : Nat} {p q r : Bool} {old : Array Value} (hx : evL l x = some (.pointer (some ⟨b, 0, none⟩))) (hy : evL l y = some (.agg #[.bool p, .bool q, .bool r])) (hb : w.heap[b]? = some (.cells old 36 (0, 0))) (hs : old.size = 3)
    (h : ∀ w', Tch b w w' → w'.heap[b]? = some (.cells #[.bool p, .bool q, .bool r] 36 (0, 0)) → wpList Tryd.prog ops Q rest a w') : wpList Tryd.prog ops Q (o :: rest) a w :=
  W_strow hA hg hd ho hx hy hb (size_3 p q r) hs (by simp [Value.oneCell']) (h _ (Tch.setRow _) (setRow_heap _ _ _ _ _ _ hb))
end
set_option maxHeartbeats 8000000 in
theorem asks_any (t : HS) (ok : HOk t) (l : LS) (w : World) : Calls Tryd.prog 7 #[hartV t, linesV l] w fun e w' => e = .returned (.int .u64 (asksZ t l)) ∧ Below w.heap.size w w' := by
  have HB := Below.refl w.heap.size w
  go_enter Tryd.func7, Tryd.ntmps7
  refine begin_fr [(1, linesV l), (0, hartV t)] 11 ?_ (fun a hA => ?_)
  · exact FrA.add (FrA.add (FrA.nil (by rfl) (by rfl)) 0 _ (by rfl)) 1 _ (by rfl)
  refine wp_seq ?_
  refine wp_region_list ?_
  refine W_boxH hA rfl 2 rfl (by decide) rfl rfl (fun w1 bHH a hA hb HH gHH => ?_)
  replace gHH := Nat.le_trans HB.size gHH
  replace HB := HB.trans (hb.mono HB.size)
  clear hb
  refine W_boxL hA rfl 3 rfl (by decide) rfl rfl (fun w2 bLL a hA hb LL gLL => ?_)
  have nHHLL : bHH < bLL := by have := HH.lt; omega
  replace HH := HH.below hb
  replace gLL := Nat.le_trans HB.size gLL
  replace HB := HB.trans (hb.mono HB.size)
  clear hb
  refine W_val hA rfl 4 rfl (by decide) _ _ (R_asg hA rfl rfl _) (fun a hA => ?_)
  refine W_nil ?_
  refine then_nrm ?_
  show Code.wp Tryd.prog _ _ _ _
  refine wp_seq ?_
  refine wp_region_held_drew (S := fun wx => Below w2.heap.size w2 wx) (by kernel_rfl) ((Below.refl _ _).drew) (fun hS => ?_)
  refine takeF (i := 0) hA 5 rfl rfl (by decide) rfl (by kernel_rfl) (by kernel_rfl) (by kernel_rfl) (fun _ _ _ h => h) hS (fun wx hx => R_row hA rfl rfl (HH.below hx) Tryd.underlying25 (size_hart.trans (by rw [varr_size]))) (fun a hA => ?_)
  refine takeF (i := 1) hA 6 rfl rfl (by decide) rfl (by kernel_rfl) (by kernel_rfl) (by kernel_rfl) (fun _ _ _ h => h) hS (fun wx hx => R_row hA rfl rfl (LL.below hx) Tryd.underlying27 (by kernel_rfl)) (fun a hA => ?_)
  refine takeF (i := 3) hA 8 rfl rfl (by decide) rfl (by kernel_rfl) (by kernel_rfl) (by kernel_rfl) (fun _ _ _ h => h) hS (fun wx hx => R_fa hA rfl rfl (fun w => fa_hart _ 10 41 (by decide) rfl w) _) (fun a hA => ?_)
  refine takeF (i := 4) hA 9 rfl rfl (by decide) rfl (by kernel_rfl) (by kernel_rfl) (by kernel_rfl) (fun _ _ _ h => h) hS (fun wx hx => R_ld hA rfl rfl ag_u64 ((HH.below hx).u 41 (by decide) (by decide))) (fun a hA => ?_)
  refine wpAnyH_ready (rs := [2]) (by kernel_rfl) (by simp) ?_
  refine ready_call (i := 2) hA (by decide) rfl (fun _ _ => by kernel_rfl) (args2 hA rfl rfl) (pend_any t ok l _) (fun _ h => hS.trans (h.mono hS.size)) (fun w3 hw a hA => ?_) ?_
  · skip
    replace hS := hS.trans (hw.mono hS.size)
    clear hw
    refine takeF (i := 5) hA 10 rfl rfl (by decide) rfl (by kernel_rfl) (by kernel_rfl) (by kernel_rfl) (fun _ _ _ h => h) hS (fun wx hx => R_and hA rfl rfl rfl _) (fun a hA => ?_)
    refine takeF (i := 6) hA 4 rfl rfl (by decide) rfl (by kernel_rfl) (by kernel_rfl) (by kernel_rfl) (fun _ _ _ h => h) hS (fun wx hx => R_asg hA rfl rfl _) (fun a hA => ?_)
    refine wpAnyH_done (by kernel_rfl) ?_ _
    replace HH := HH.below hS
    replace LL := LL.below hS
    replace HB := HB.trans (hS.mono HB.size)
    clear hS
    refine then_nrm ?_
    show Code.wp Tryd.prog _ _ _ _
    refine wp_ret ?_
    refine ret_tmp (j := 4) (by kernel_rfl) hA (by decide) rfl ?_
    refine ⟨congrArg (fun x : Int => Ending.returned (.int .u64 x)) ?_, HB⟩
    rfl
  exact AllReadyH.nil
set_option maxHeartbeats 8000000 in
theorem dasks_any (t : HS) (ok : HOk t) (l : LS) (lk : LOk l) (w : World) : Calls Tryd.prog 8 #[hartV t, linesV l] w fun e w' => e = .returned (.int .u64 (asksZ t l)) ∧ Below w.heap.size w w' := by
  have HB := Below.refl w.heap.size w
  go_enter Tryd.func8, Tryd.ntmps8
  refine begin_fr [(1, linesV l), (0, hartV t)] 11 ?_ (fun a hA => ?_)
  · exact FrA.add (FrA.add (FrA.nil (by rfl) (by rfl)) 0 _ (by rfl)) 1 _ (by rfl)
  refine wp_seq ?_
  refine wp_region_list ?_
  refine W_boxH hA rfl 2 rfl (by decide) rfl rfl (fun w1 bHH a hA hb HH gHH => ?_)
  replace gHH := Nat.le_trans HB.size gHH
  replace HB := HB.trans (hb.mono HB.size)
  clear hb
  refine W_boxL hA rfl 3 rfl (by decide) rfl rfl (fun w2 bLL a hA hb LL gLL => ?_)
  have nHHLL : bHH < bLL := by have := HH.lt; omega
  replace HH := HH.below hb
  replace gLL := Nat.le_trans HB.size gLL
  replace HB := HB.trans (hb.mono HB.size)
  clear hb
  refine W_val hA rfl 4 rfl (by decide) _ _ (R_asg hA rfl rfl _) (fun a hA => ?_)
  refine W_nil ?_
  refine then_nrm ?_
  show Code.wp Tryd.prog _ _ _ _
  refine wp_seq ?_
  refine wp_region_held_drew (S := fun wx => Below w2.heap.size w2 wx) (by kernel_rfl) ((Below.refl _ _).drew) (fun hS => ?_)
  refine takeF (i := 0) hA 5 rfl rfl (by decide) rfl (by kernel_rfl) (by kernel_rfl) (by kernel_rfl) (fun _ _ _ h => h) hS (fun wx hx => R_row hA rfl rfl (HH.below hx) Tryd.underlying25 (size_hart.trans (by rw [varr_size]))) (fun a hA => ?_)
  refine takeF (i := 1) hA 6 rfl rfl (by decide) rfl (by kernel_rfl) (by kernel_rfl) (by kernel_rfl) (fun _ _ _ h => h) hS (fun wx hx => R_row hA rfl rfl (LL.below hx) Tryd.underlying27 (by kernel_rfl)) (fun a hA => ?_)
  refine takeF (i := 3) hA 8 rfl rfl (by decide) rfl (by kernel_rfl) (by kernel_rfl) (by kernel_rfl) (fun _ _ _ h => h) hS (fun wx hx => R_fa hA rfl rfl (fun w => fa_hart _ 10 41 (by decide) rfl w) _) (fun a hA => ?_)
  refine takeF (i := 4) hA 9 rfl rfl (by decide) rfl (by kernel_rfl) (by kernel_rfl) (by kernel_rfl) (fun _ _ _ h => h) hS (fun wx hx => R_ld hA rfl rfl ag_u64 ((HH.below hx).u 41 (by decide) (by decide))) (fun a hA => ?_)
  refine wpAnyH_ready (rs := [2]) (by kernel_rfl) (by simp) ?_
  refine ready_call (i := 2) hA (by decide) rfl (fun _ _ => by kernel_rfl) (args2 hA rfl rfl) (dpend_any t ok l lk _) (fun _ h => hS.trans (h.mono hS.size)) (fun w3 hw a hA => ?_) ?_
  · skip
    replace hS := hS.trans (hw.mono hS.size)
    clear hw
    refine takeF (i := 5) hA 10 rfl rfl (by decide) rfl (by kernel_rfl) (by kernel_rfl) (by kernel_rfl) (fun _ _ _ h => h) hS (fun wx hx => R_and hA rfl rfl rfl _) (fun a hA => ?_)
    refine takeF (i := 6) hA 4 rfl rfl (by decide) rfl (by kernel_rfl) (by kernel_rfl) (by kernel_rfl) (fun _ _ _ h => h) hS (fun wx hx => R_asg hA rfl rfl _) (fun a hA => ?_)
    refine wpAnyH_done (by kernel_rfl) ?_ _
    replace HH := HH.below hS
    replace LL := LL.below hS
    replace HB := HB.trans (hS.mono HB.size)
    clear hS
    refine then_nrm ?_
    show Code.wp Tryd.prog _ _ _ _
    refine wp_ret ?_
    refine ret_tmp (j := 4) (by kernel_rfl) hA (by decide) rfl ?_
    refine ⟨congrArg (fun x : Int => Ending.returned (.int .u64 x)) ?_, HB⟩
    rfl
  exact AllReadyH.nil
set_option maxHeartbeats 8000000 in
theorem irqWakes_any (t : HS) (ok : HOk t) (l : LS) (w : World) : Calls Tryd.prog 11 #[hartV t, linesV l] w fun e w' => e = .returned (.bool (asksZ t l != 0)) ∧ Below w.heap.size w w' := by
  have HB := Below.refl w.heap.size w
  go_enter Tryd.func11, Tryd.ntmps11
  refine begin_fr [(1, linesV l), (0, hartV t)] 9 ?_ (fun a hA => ?_)
  · exact FrA.add (FrA.add (FrA.nil (by rfl) (by rfl)) 0 _ (by rfl)) 1 _ (by rfl)
  refine wp_seq ?_
  refine wp_region_list ?_
  refine W_boxH hA rfl 2 rfl (by decide) rfl rfl (fun w1 bHH a hA hb HH gHH => ?_)
  replace gHH := Nat.le_trans HB.size gHH
  replace HB := HB.trans (hb.mono HB.size)
  clear hb
  refine W_boxL hA rfl 3 rfl (by decide) rfl rfl (fun w2 bLL a hA hb LL gLL => ?_)
  have nHHLL : bHH < bLL := by have := HH.lt; omega
  replace HH := HH.below hb
  replace gLL := Nat.le_trans HB.size gLL
  replace HB := HB.trans (hb.mono HB.size)
  clear hb
  refine W_val hA rfl 4 rfl (by decide) _ _ (R_asg hA rfl rfl _) (fun a hA => ?_)
  refine W_nil ?_
  refine then_nrm ?_
  show Code.wp Tryd.prog _ _ _ _
  refine wp_seq ?_
  refine wp_region_list ?_
  refine W_val hA rfl 5 rfl (by decide) _ _ (R_row hA rfl rfl HH Tryd.underlying25 (size_hart.trans (by rw [varr_size]))) (fun a hA => ?_)
  refine W_val hA rfl 6 rfl (by decide) _ _ (R_row hA rfl rfl LL Tryd.underlying27 (by kernel_rfl)) (fun a hA => ?_)
  refine W_call2 hA (by decide) (fun _ _ => by kernel_rfl) rfl rfl (asks_any t ok l _) (fun w3 hw a hA => ?_)
  replace HB := HB.trans (hw.mono HB.size)
  replace HH := HH.below hw
  replace LL := LL.below hw
  clear hw
  refine W_val hA rfl 8 rfl (by decide) _ _ (R_neqU hA rfl rfl rfl _) (fun a hA => ?_)
  refine W_val hA rfl 4 rfl (by decide) _ _ (R_asg hA rfl rfl _) (fun a hA => ?_)
  refine W_nil ?_
  refine then_nrm ?_
  show Code.wp Tryd.prog _ _ _ _
  refine wp_ret ?_
  refine ret_tmp (j := 4) (by kernel_rfl) hA (by decide) rfl ?_
  refine ⟨congrArg (fun x : Bool => Ending.returned (.bool x)) ?_, HB⟩
  rfl
set_option maxHeartbeats 8000000 in
theorem dirqWakes_any (t : HS) (ok : HOk t) (l : LS) (lk : LOk l) (w : World) : Calls Tryd.prog 12 #[hartV t, linesV l] w fun e w' => e = .returned (.bool (asksZ t l != 0)) ∧ Below w.heap.size w w' := by
  have HB := Below.refl w.heap.size w
  go_enter Tryd.func12, Tryd.ntmps12
  refine begin_fr [(1, linesV l), (0, hartV t)] 9 ?_ (fun a hA => ?_)
  · exact FrA.add (FrA.add (FrA.nil (by rfl) (by rfl)) 0 _ (by rfl)) 1 _ (by rfl)
  refine wp_seq ?_
  refine wp_region_list ?_
  refine W_boxH hA rfl 2 rfl (by decide) rfl rfl (fun w1 bHH a hA hb HH gHH => ?_)
  replace gHH := Nat.le_trans HB.size gHH
  replace HB := HB.trans (hb.mono HB.size)
  clear hb
  refine W_boxL hA rfl 3 rfl (by decide) rfl rfl (fun w2 bLL a hA hb LL gLL => ?_)
  have nHHLL : bHH < bLL := by have := HH.lt; omega
  replace HH := HH.below hb
  replace gLL := Nat.le_trans HB.size gLL
  replace HB := HB.trans (hb.mono HB.size)
  clear hb
  refine W_val hA rfl 4 rfl (by decide) _ _ (R_asg hA rfl rfl _) (fun a hA => ?_)
  refine W_nil ?_
  refine then_nrm ?_
  show Code.wp Tryd.prog _ _ _ _
  refine wp_seq ?_
  refine wp_region_list ?_
  refine W_val hA rfl 5 rfl (by decide) _ _ (R_row hA rfl rfl HH Tryd.underlying25 (size_hart.trans (by rw [varr_size]))) (fun a hA => ?_)
  refine W_val hA rfl 6 rfl (by decide) _ _ (R_row hA rfl rfl LL Tryd.underlying27 (by kernel_rfl)) (fun a hA => ?_)
  refine W_call2 hA (by decide) (fun _ _ => by kernel_rfl) rfl rfl (dasks_any t ok l lk _) (fun w3 hw a hA => ?_)
  replace HB := HB.trans (hw.mono HB.size)
  replace HH := HH.below hw
  replace LL := LL.below hw
  clear hw
  refine W_val hA rfl 8 rfl (by decide) _ _ (R_neqU hA rfl rfl rfl _) (fun a hA => ?_)
  refine W_val hA rfl 4 rfl (by decide) _ _ (R_asg hA rfl rfl _) (fun a hA => ?_)
  refine W_nil ?_
  refine then_nrm ?_
  show Code.wp Tryd.prog _ _ _ _
  refine wp_ret ?_
  refine ret_tmp (j := 4) (by kernel_rfl) hA (by decide) rfl ?_
  refine ⟨congrArg (fun x : Bool => Ending.returned (.bool x)) ?_, HB⟩
  rfl
set_option maxHeartbeats 8000000 in
theorem level_any (t : HS) (ok : HOk t) (n : Nat) (hn : n < 64) (w : World) : Calls Tryd.prog 18 #[hartV t, .int .u64 n] w fun e w' => e = .returned (.int .i64 (lvlZ t n)) ∧ Below w.heap.size w w' := by
  have HB := Below.refl w.heap.size w
  go_enter Tryd.func18, Tryd.ntmps18
  refine begin_fr [(1, .int .u64 n), (0, hartV t)] 19 ?_ (fun a hA => ?_)
  · exact FrA.add (FrA.add (FrA.nil (by rfl) (by rfl)) 0 _ (by rfl)) 1 _ (by rfl)
  refine wp_seq ?_
  refine wp_region_list ?_
  refine W_boxH hA rfl 2 rfl (by decide) rfl rfl (fun w1 bHH a hA hb HH gHH => ?_)
  replace gHH := Nat.le_trans HB.size gHH
  replace HB := HB.trans (hb.mono HB.size)
  clear hb
  refine W_val hA rfl 4 rfl (by decide) _ _ (R_asg hA rfl rfl _) (fun a hA => ?_)
  refine W_nil ?_
  refine then_nrm ?_
  show Code.wp Tryd.prog _ _ _ _
  refine wp_seq ?_
  refine wp_block ?_
  refine wp_seq ?_
  refine wp_region_list ?_
  refine W_val hA rfl 6 rfl (by decide) _ _ (R_fa hA rfl rfl (fun w => fa_hart _ 9 40 (by decide) rfl w) _) (fun a hA => ?_)
  refine W_val hA rfl 7 rfl (by decide) _ _ (R_ld hA rfl rfl ag_u64 (HH.u 40 (by decide) (by decide))) (fun a hA => ?_)
  refine W_val hA rfl 8 rfl (by decide) _ _ (R_mov hA rfl rfl _) (fun a hA => ?_)
  refine W_val hA rfl 9 rfl (by decide) _ _ (R_shrX hA rfl rfl (ok.n _).1 hn rfl _) (fun a hA => ?_)
  refine W_val hA rfl 10 rfl (by decide) _ _ (R_and hA rfl rfl rfl _) (fun a hA => ?_)
  refine W_val hA rfl 11 rfl (by decide) _ _ (R_eqlU hA rfl rfl rfl _) (fun a hA => ?_)
  refine W_val hA rfl 5 rfl (by decide) _ _ (R_asg hA rfl rfl _) (fun a hA => ?_)
  refine W_nil ?_
  refine then_nrm ?_
  show Code.wp Tryd.prog _ _ _ _
  refine wp_cond_split (hA.ev (x := .tmp 5) rfl) (fun c1 => ?_) (fun c1 => ?_)
  · skip
    refine wp_seq ?_
    refine wp_region_list ?_
    refine W_val hA rfl 4 rfl (by decide) _ _ (R_asg hA rfl rfl _) (fun a hA => ?_)
    refine W_nil ?_
    refine then_nrm ?_
    show Code.wp Tryd.prog _ _ _ _
    refine wp_ret ?_
    refine blk_ret ?_
    refine then_ret ?_
    refine ret_tmp (j := 4) (by kernel_rfl) hA (by decide) rfl ?_
    refine ⟨congrArg (fun x : Int => Ending.returned (.int .i64 x)) ?_, HB⟩
    unfold lvlZ
    rw [has_bit0 (ok.n 40)] at c1
    simp only [c1, if_true, if_false, Bool.false_eq_true]
    rfl
  refine wp_seq ?_
  refine wp_region_list ?_
  refine W_val hA rfl 13 rfl (by decide) _ _ (R_fa hA rfl rfl (fun w => fa_hart _ 29 60 (by decide) rfl w) _) (fun a hA => ?_)
  refine W_val hA rfl 14 rfl (by decide) _ _ (R_ld hA rfl rfl ag_u64 (HH.u 60 (by decide) (by decide))) (fun a hA => ?_)
  refine W_val hA rfl 15 rfl (by decide) _ _ (R_mov hA rfl rfl _) (fun a hA => ?_)
  refine W_val hA rfl 16 rfl (by decide) _ _ (R_shrX hA rfl rfl (ok.n _).1 hn rfl _) (fun a hA => ?_)
  refine W_val hA rfl 17 rfl (by decide) _ _ (R_and hA rfl rfl rfl _) (fun a hA => ?_)
  refine W_val hA rfl 18 rfl (by decide) _ _ (R_eqlU hA rfl rfl rfl _) (fun a hA => ?_)
  refine W_val hA rfl 12 rfl (by decide) _ _ (R_asg hA rfl rfl _) (fun a hA => ?_)
  refine W_nil ?_
  refine then_nrm ?_
  show Code.wp Tryd.prog _ _ _ _
  refine wp_cond_split (hA.ev (x := .tmp 12) rfl) (fun c2 => ?_) (fun c2 => ?_)
  · skip
    refine wp_seq ?_
    refine wp_region_list ?_
    refine W_val hA rfl 4 rfl (by decide) _ _ (R_asg hA rfl rfl _) (fun a hA => ?_)
    refine W_nil ?_
    refine then_nrm ?_
    show Code.wp Tryd.prog _ _ _ _
    refine wp_ret ?_
    refine blk_ret ?_
    refine then_ret ?_
    refine ret_tmp (j := 4) (by kernel_rfl) hA (by decide) rfl ?_
    refine ⟨congrArg (fun x : Int => Ending.returned (.int .i64 x)) ?_, HB⟩
    unfold lvlZ
    rw [has_bit0 (ok.n 40)] at c1
    rw [has_bit0 (ok.n 60)] at c2
    simp only [c1, c2, if_true, if_false, Bool.false_eq_true]
    rfl
  refine wp_skip ?_
  refine blk_nrm ?_
  refine then_nrm ?_
  show Code.wp Tryd.prog _ _ _ _
  refine wp_seq ?_
  refine wp_region_list ?_
  refine W_val hA rfl 4 rfl (by decide) _ _ (R_asg hA rfl rfl _) (fun a hA => ?_)
  refine W_nil ?_
  refine then_nrm ?_
  show Code.wp Tryd.prog _ _ _ _
  refine wp_ret ?_
  refine ret_tmp (j := 4) (by kernel_rfl) hA (by decide) rfl ?_
  refine ⟨congrArg (fun x : Int => Ending.returned (.int .i64 x)) ?_, HB⟩
  unfold lvlZ
  rw [has_bit0 (ok.n 40)] at c1
  rw [has_bit0 (ok.n 60)] at c2
  simp only [c1, c2, if_true, if_false, Bool.false_eq_true]
  rfl
set_option maxHeartbeats 8000000 in
theorem open_any (t : HS) (ok : HOk t) (w : World) : Calls Tryd.prog 16 #[hartV t] w fun e w' => e = .returned (.agg (opC t)) ∧ Below w.heap.size w w' := by
  have HB := Below.refl w.heap.size w
  go_enter Tryd.func16, Tryd.ntmps16
  refine begin_fr [(0, hartV t)] 38 ?_ (fun a hA => ?_)
  · exact FrA.add (FrA.nil (by rfl) (by rfl)) 0 _ (by rfl)
  refine wp_seq ?_
  refine wp_region_list ?_
  refine W_boxH hA rfl 1 rfl (by decide) rfl rfl (fun w1 bHH a hA hb HH gHH => ?_)
  replace gHH := Nat.le_trans HB.size gHH
  replace HB := HB.trans (hb.mono HB.size)
  clear hb
  refine W_val hA rfl 2 rfl (by decide) _ _ (R_alloc hA rfl zero_3 _) (fun a hA => ?_)
  obtain ⟨w2, ew2⟩ : ∃ q, q = World.alloc w1 (.cells #[.bool false, .bool false, .bool false] 36) := ⟨_, rfl⟩
  obtain ⟨bO2, ebO2⟩ : ∃ q, q = w1.heap.size := ⟨_, rfl⟩
  have gO2 : w1.heap.size ≤ bO2 := Nat.le_of_eq ebO2.symm
  have O2 : w2.heap[bO2]? = some (.cells #[.bool false, .bool false, .bool false] 36 (0, 0)) := by rw [ew2, ebO2]; exact heap_alloc_new _ _
  have hb : Below w1.heap.size w1 w2 := by rw [ew2]; exact (Below.refl _ _).alloc (Nat.le_refl _) _
  rw [← ebO2] at hA
  rw [← ew2]
  have nHHO2 : bHH < bO2 := by have := HH.lt; omega
  replace HH := HH.below hb
  replace gO2 := Nat.le_trans HB.size gO2
  replace HB := HB.trans (hb.mono HB.size)
  clear hb ew2 ebO2
  refine W_nil ?_
  refine then_nrm ?_
  show Code.wp Tryd.prog _ _ _ _
  refine wp_seq ?_
  refine wp_seq ?_
  refine wp_region_list ?_
  refine W_val hA rfl 4 rfl (by decide) _ _ (R_fa hA rfl rfl (fun w => fa_hart _ 2 33 (by decide) rfl w) _) (fun a hA => ?_)
  refine W_val hA rfl 5 rfl (by decide) _ _ (R_ld hA rfl rfl ag_u8 HH.p) (fun a hA => ?_)
  refine W_val hA rfl 6 rfl (by decide) _ _ (R_eqlB hA rfl rfl rfl _) (fun a hA => ?_)
  refine W_nil ?_
  refine then_nrm ?_
  show Code.wp Tryd.prog _ _ _ _
  refine wp_cond_split (hA.ev (x := .tmp 6) rfl) (fun c1 => ?_) (fun c1 => ?_)
  · skip
    refine wp_seq ?_
    refine wp_region_list ?_
    refine W_val hA rfl 7 rfl (by decide) _ _ (R_fa hA rfl rfl (fun w => fa_hart _ 7 38 (by decide) rfl w) _) (fun a hA => ?_)
    refine W_val hA rfl 8 rfl (by decide) _ _ (R_ld hA rfl rfl ag_u64 (HH.u 38 (by decide) (by decide))) (fun a hA => ?_)
    refine W_val hA rfl 9 rfl (by decide) _ _ (R_and hA rfl rfl rfl _) (fun a hA => ?_)
    refine W_val hA rfl 10 rfl (by decide) _ _ (R_neqU hA rfl rfl rfl _) (fun a hA => ?_)
    refine W_val hA rfl 11 rfl (by decide) _ _ (R_build (ps := [(0, .tmp 10)]) hA rfl [(0, .bool _)] rfl (bld3a _) _) (fun a hA => ?_)
    refine W_st3 hA rfl rfl rfl rfl rfl O2 rfl (fun w3 hT NO2 => ?_)
    replace HB := HB.trans (hT.bel _ gO2)
    replace HH := hT.hart HH (by omega)
    refine W_nil ?_
    refine then_nrm ?_
    show Code.wp Tryd.prog _ _ _ _
    refine wp_ret ?_
    refine then_ret ?_
    refine bodyPost_ret (results_cell_row (by kernel_rfl) _ _ bO2 36 _ (0, 0) _ (hA.get 2 _ rfl) NO2 Tryd.underlying36 rfl (size_3 _ _ _)) hA.df ⟨congrArg (fun q : Array Value => Ending.returned (.agg q)) ?_, HB⟩
    unfold opC openZ
    revert c1
    simp +contextual [bit3_ne, bit1_ne]
  refine wp_skip ?_
  refine then_nrm ?_
  show Code.wp Tryd.prog _ _ _ _
  refine wp_seq ?_
  refine wp_region_list ?_
  refine W_val hA rfl 12 rfl (by decide) _ _ (R_fa hA rfl rfl (fun w => fa_hart _ 2 33 (by decide) rfl w) _) (fun a hA => ?_)
  refine W_val hA rfl 13 rfl (by decide) _ _ (R_ld hA rfl rfl ag_u8 HH.p) (fun a hA => ?_)
  refine W_val hA rfl 14 rfl (by decide) _ _ (R_eqlB hA rfl rfl rfl _) (fun a hA => ?_)
  refine W_val hA rfl 3 rfl (by decide) _ _ (R_asg hA rfl rfl _) (fun a hA => ?_)
  refine W_nil ?_
  refine then_nrm ?_
  show Code.wp Tryd.prog _ _ _ _
  refine wp_seq ?_
  refine wp_region_list ?_
  refine W_val hA rfl 15 rfl (by decide) _ _ (R_fa hA rfl rfl (fun w => fa_hart _ 3 34 (by decide) rfl w) _) (fun a hA => ?_)
  refine W_val hA rfl 16 rfl (by decide) _ _ (R_ld hA rfl rfl ag_bool HH.v) (fun a hA => ?_)
  refine W_val hA rfl 17 rfl (by decide) _ _ (R_mov hA rfl rfl _) (fun a hA => ?_)
  refine W_split hA 17 rfl (fun c2 hA => ?_) (fun c2 hA => ?_)
  · skip
    refine W_gskip hA rfl rfl rfl 18 rfl (by decide) (fun a hA => ?_)
    refine W_val hA rfl 19 rfl (by decide) _ _ (R_pick hA rfl rfl rfl _) (fun a hA => ?_)
    refine W_val hA rfl 20 rfl (by decide) _ _ (R_mov hA rfl rfl _) (fun a hA => ?_)
    refine W_split hA 20 rfl (fun c3 hA => ?_) (fun c3 hA => ?_)
    · skip
      refine W_gskip hA rfl rfl rfl 21 rfl (by decide) (fun a hA => ?_)
      refine W_gskip hA rfl rfl rfl 22 rfl (by decide) (fun a hA => ?_)
      refine W_gskip hA rfl rfl rfl 23 rfl (by decide) (fun a hA => ?_)
      refine W_gskip hA rfl rfl rfl 24 rfl (by decide) (fun a hA => ?_)
      refine W_val hA rfl 25 rfl (by decide) _ _ (R_pick hA rfl rfl rfl _) (fun a hA => ?_)
      refine W_val hA rfl 26 rfl (by decide) _ _ (R_fa hA rfl rfl (fun w => fa_hart _ 3 34 (by decide) rfl w) _) (fun a hA => ?_)
      refine W_val hA rfl 27 rfl (by decide) _ _ (R_ld hA rfl rfl ag_bool HH.v) (fun a hA => ?_)
      refine W_val hA rfl 28 rfl (by decide) _ _ (R_mov hA rfl rfl _) (fun a hA => ?_)
      refine W_split hA 28 rfl (fun c4 hA => ?_) (fun c4 hA => ?_)
      · skip
        refine W_gval hA rfl rfl rfl 29 rfl (by decide) _ _ (R_mov hA rfl rfl _) (fun a hA => ?_)
        refine W_gval hA rfl rfl rfl 30 rfl (by decide) _ _ (R_mov hA rfl rfl _) (fun a hA => ?_)
        refine W_split hA 30 rfl (fun c5 hA => ?_) (fun c5 hA => ?_)
        · skip
          refine W_gskip hA rfl rfl rfl 31 rfl (by decide) (fun a hA => ?_)
          refine W_gskip hA rfl rfl rfl 32 rfl (by decide) (fun a hA => ?_)
          refine W_gskip hA rfl rfl rfl 33 rfl (by decide) (fun a hA => ?_)
          refine W_gskip hA rfl rfl rfl 34 rfl (by decide) (fun a hA => ?_)
          refine W_gval hA rfl rfl rfl 35 rfl (by decide) _ _ (R_pick hA rfl rfl rfl _) (fun a hA => ?_)
          refine W_val hA rfl 36 rfl (by decide) _ _ (R_pick hA rfl rfl rfl _) (fun a hA => ?_)
          refine W_val hA rfl 37 rfl (by decide) _ _ (R_build (ps := [(0, .const (.bool true)), (1, .tmp 25), (2, .tmp 36)]) hA rfl [(0, .bool true), (1, .bool _), (2, .bool _)] rfl (bld3b _ _ _) _) (fun a hA => ?_)
          refine W_st3 hA rfl rfl rfl rfl rfl O2 rfl (fun w4 hT NO2 => ?_)
          replace HB := HB.trans (hT.bel _ gO2)
          replace HH := hT.hart HH (by omega)
          refine W_nil ?_
          refine then_nrm ?_
          show Code.wp Tryd.prog _ _ _ _
          refine wp_ret ?_
          refine bodyPost_ret (results_cell_row (by kernel_rfl) _ _ bO2 36 _ (0, 0) _ (hA.get 2 _ rfl) NO2 Tryd.underlying36 rfl (size_3 _ _ _)) hA.df ⟨congrArg (fun q : Array Value => Ending.returned (.agg q)) ?_, HB⟩
          unfold opC openZ
          revert c1 c2 c3 c4 c5
          simp +contextual [bit3_ne, bit1_ne]
        refine W_gval hA rfl rfl rfl 31 rfl (by decide) _ _ (R_fa hA rfl rfl (fun w => fa_hart _ 37 68 (by decide) rfl w) _) (fun a hA => ?_)
        refine W_gval hA rfl rfl rfl 32 rfl (by decide) _ _ (R_ld hA rfl rfl ag_u64 (HH.u 68 (by decide) (by decide))) (fun a hA => ?_)
        refine W_gval hA rfl rfl rfl 33 rfl (by decide) _ _ (R_and hA rfl rfl rfl _) (fun a hA => ?_)
        refine W_gval hA rfl rfl rfl 34 rfl (by decide) _ _ (R_neqU hA rfl rfl rfl _) (fun a hA => ?_)
        refine W_gval hA rfl rfl rfl 35 rfl (by decide) _ _ (R_pick hA rfl rfl rfl _) (fun a hA => ?_)
        refine W_val hA rfl 36 rfl (by decide) _ _ (R_pick hA rfl rfl rfl _) (fun a hA => ?_)
        refine W_val hA rfl 37 rfl (by decide) _ _ (R_build (ps := [(0, .const (.bool true)), (1, .tmp 25), (2, .tmp 36)]) hA rfl [(0, .bool true), (1, .bool _), (2, .bool _)] rfl (bld3b _ _ _) _) (fun a hA => ?_)
        refine W_st3 hA rfl rfl rfl rfl rfl O2 rfl (fun w5 hT NO2 => ?_)
        replace HB := HB.trans (hT.bel _ gO2)
        replace HH := hT.hart HH (by omega)
        refine W_nil ?_
        refine then_nrm ?_
        show Code.wp Tryd.prog _ _ _ _
        refine wp_ret ?_
        refine bodyPost_ret (results_cell_row (by kernel_rfl) _ _ bO2 36 _ (0, 0) _ (hA.get 2 _ rfl) NO2 Tryd.underlying36 rfl (size_3 _ _ _)) hA.df ⟨congrArg (fun q : Array Value => Ending.returned (.agg q)) ?_, HB⟩
        unfold opC openZ
        revert c1 c2 c3 c4 c5
        simp +contextual [bit3_ne, bit1_ne]
      refine W_gskip hA rfl rfl rfl 29 rfl (by decide) (fun a hA => ?_)
      refine W_gskip hA rfl rfl rfl 30 rfl (by decide) (fun a hA => ?_)
      refine W_gskipU hA rfl rfl rfl 31 rfl (by decide) (fun a hA => ?_)
      refine W_gskipU hA rfl rfl rfl 32 rfl (by decide) (fun a hA => ?_)
      refine W_gskipU hA rfl rfl rfl 33 rfl (by decide) (fun a hA => ?_)
      refine W_gskipU hA rfl rfl rfl 34 rfl (by decide) (fun a hA => ?_)
      refine W_gskip hA rfl rfl rfl 35 rfl (by decide) (fun a hA => ?_)
      refine W_val hA rfl 36 rfl (by decide) _ _ (R_pick hA rfl rfl rfl _) (fun a hA => ?_)
      refine W_val hA rfl 37 rfl (by decide) _ _ (R_build (ps := [(0, .const (.bool true)), (1, .tmp 25), (2, .tmp 36)]) hA rfl [(0, .bool true), (1, .bool _), (2, .bool _)] rfl (bld3b _ _ _) _) (fun a hA => ?_)
      refine W_st3 hA rfl rfl rfl rfl rfl O2 rfl (fun w6 hT NO2 => ?_)
      replace HB := HB.trans (hT.bel _ gO2)
      replace HH := hT.hart HH (by omega)
      refine W_nil ?_
      refine then_nrm ?_
      show Code.wp Tryd.prog _ _ _ _
      refine wp_ret ?_
      refine bodyPost_ret (results_cell_row (by kernel_rfl) _ _ bO2 36 _ (0, 0) _ (hA.get 2 _ rfl) NO2 Tryd.underlying36 rfl (size_3 _ _ _)) hA.df ⟨congrArg (fun q : Array Value => Ending.returned (.agg q)) ?_, HB⟩
      unfold opC openZ
      revert c1 c2 c3 c4
      simp +contextual [bit3_ne, bit1_ne]
    refine W_gval hA rfl rfl rfl 21 rfl (by decide) _ _ (R_fa hA rfl rfl (fun w => fa_hart _ 7 38 (by decide) rfl w) _) (fun a hA => ?_)
    refine W_gval hA rfl rfl rfl 22 rfl (by decide) _ _ (R_ld hA rfl rfl ag_u64 (HH.u 38 (by decide) (by decide))) (fun a hA => ?_)
    refine W_gval hA rfl rfl rfl 23 rfl (by decide) _ _ (R_and hA rfl rfl rfl _) (fun a hA => ?_)
    refine W_gval hA rfl rfl rfl 24 rfl (by decide) _ _ (R_neqU hA rfl rfl rfl _) (fun a hA => ?_)
    refine W_val hA rfl 25 rfl (by decide) _ _ (R_pick hA rfl rfl rfl _) (fun a hA => ?_)
    refine W_val hA rfl 26 rfl (by decide) _ _ (R_fa hA rfl rfl (fun w => fa_hart _ 3 34 (by decide) rfl w) _) (fun a hA => ?_)
    refine W_val hA rfl 27 rfl (by decide) _ _ (R_ld hA rfl rfl ag_bool HH.v) (fun a hA => ?_)
    refine W_val hA rfl 28 rfl (by decide) _ _ (R_mov hA rfl rfl _) (fun a hA => ?_)
    refine W_split hA 28 rfl (fun c6 hA => ?_) (fun c6 hA => ?_)
    · skip
      refine W_gval hA rfl rfl rfl 29 rfl (by decide) _ _ (R_mov hA rfl rfl _) (fun a hA => ?_)
      refine W_gval hA rfl rfl rfl 30 rfl (by decide) _ _ (R_mov hA rfl rfl _) (fun a hA => ?_)
      refine W_split hA 30 rfl (fun c7 hA => ?_) (fun c7 hA => ?_)
      · skip
        refine W_gskip hA rfl rfl rfl 31 rfl (by decide) (fun a hA => ?_)
        refine W_gskip hA rfl rfl rfl 32 rfl (by decide) (fun a hA => ?_)
        refine W_gskip hA rfl rfl rfl 33 rfl (by decide) (fun a hA => ?_)
        refine W_gskip hA rfl rfl rfl 34 rfl (by decide) (fun a hA => ?_)
        refine W_gval hA rfl rfl rfl 35 rfl (by decide) _ _ (R_pick hA rfl rfl rfl _) (fun a hA => ?_)
        refine W_val hA rfl 36 rfl (by decide) _ _ (R_pick hA rfl rfl rfl _) (fun a hA => ?_)
        refine W_val hA rfl 37 rfl (by decide) _ _ (R_build (ps := [(0, .const (.bool true)), (1, .tmp 25), (2, .tmp 36)]) hA rfl [(0, .bool true), (1, .bool _), (2, .bool _)] rfl (bld3b _ _ _) _) (fun a hA => ?_)
        refine W_st3 hA rfl rfl rfl rfl rfl O2 rfl (fun w7 hT NO2 => ?_)
        replace HB := HB.trans (hT.bel _ gO2)
        replace HH := hT.hart HH (by omega)
        refine W_nil ?_
        refine then_nrm ?_
        show Code.wp Tryd.prog _ _ _ _
        refine wp_ret ?_
        refine bodyPost_ret (results_cell_row (by kernel_rfl) _ _ bO2 36 _ (0, 0) _ (hA.get 2 _ rfl) NO2 Tryd.underlying36 rfl (size_3 _ _ _)) hA.df ⟨congrArg (fun q : Array Value => Ending.returned (.agg q)) ?_, HB⟩
        unfold opC openZ
        revert c1 c2 c3 c6 c7
        simp +contextual [bit3_ne, bit1_ne]
      refine W_gval hA rfl rfl rfl 31 rfl (by decide) _ _ (R_fa hA rfl rfl (fun w => fa_hart _ 37 68 (by decide) rfl w) _) (fun a hA => ?_)
      refine W_gval hA rfl rfl rfl 32 rfl (by decide) _ _ (R_ld hA rfl rfl ag_u64 (HH.u 68 (by decide) (by decide))) (fun a hA => ?_)
      refine W_gval hA rfl rfl rfl 33 rfl (by decide) _ _ (R_and hA rfl rfl rfl _) (fun a hA => ?_)
      refine W_gval hA rfl rfl rfl 34 rfl (by decide) _ _ (R_neqU hA rfl rfl rfl _) (fun a hA => ?_)
      refine W_gval hA rfl rfl rfl 35 rfl (by decide) _ _ (R_pick hA rfl rfl rfl _) (fun a hA => ?_)
      refine W_val hA rfl 36 rfl (by decide) _ _ (R_pick hA rfl rfl rfl _) (fun a hA => ?_)
      refine W_val hA rfl 37 rfl (by decide) _ _ (R_build (ps := [(0, .const (.bool true)), (1, .tmp 25), (2, .tmp 36)]) hA rfl [(0, .bool true), (1, .bool _), (2, .bool _)] rfl (bld3b _ _ _) _) (fun a hA => ?_)
      refine W_st3 hA rfl rfl rfl rfl rfl O2 rfl (fun w8 hT NO2 => ?_)
      replace HB := HB.trans (hT.bel _ gO2)
      replace HH := hT.hart HH (by omega)
      refine W_nil ?_
      refine then_nrm ?_
      show Code.wp Tryd.prog _ _ _ _
      refine wp_ret ?_
      refine bodyPost_ret (results_cell_row (by kernel_rfl) _ _ bO2 36 _ (0, 0) _ (hA.get 2 _ rfl) NO2 Tryd.underlying36 rfl (size_3 _ _ _)) hA.df ⟨congrArg (fun q : Array Value => Ending.returned (.agg q)) ?_, HB⟩
      unfold opC openZ
      revert c1 c2 c3 c6 c7
      simp +contextual [bit3_ne, bit1_ne]
    refine W_gskip hA rfl rfl rfl 29 rfl (by decide) (fun a hA => ?_)
    refine W_gskip hA rfl rfl rfl 30 rfl (by decide) (fun a hA => ?_)
    refine W_gskipU hA rfl rfl rfl 31 rfl (by decide) (fun a hA => ?_)
    refine W_gskipU hA rfl rfl rfl 32 rfl (by decide) (fun a hA => ?_)
    refine W_gskipU hA rfl rfl rfl 33 rfl (by decide) (fun a hA => ?_)
    refine W_gskipU hA rfl rfl rfl 34 rfl (by decide) (fun a hA => ?_)
    refine W_gskip hA rfl rfl rfl 35 rfl (by decide) (fun a hA => ?_)
    refine W_val hA rfl 36 rfl (by decide) _ _ (R_pick hA rfl rfl rfl _) (fun a hA => ?_)
    refine W_val hA rfl 37 rfl (by decide) _ _ (R_build (ps := [(0, .const (.bool true)), (1, .tmp 25), (2, .tmp 36)]) hA rfl [(0, .bool true), (1, .bool _), (2, .bool _)] rfl (bld3b _ _ _) _) (fun a hA => ?_)
    refine W_st3 hA rfl rfl rfl rfl rfl O2 rfl (fun w9 hT NO2 => ?_)
    replace HB := HB.trans (hT.bel _ gO2)
    replace HH := hT.hart HH (by omega)
    refine W_nil ?_
    refine then_nrm ?_
    show Code.wp Tryd.prog _ _ _ _
    refine wp_ret ?_
    refine bodyPost_ret (results_cell_row (by kernel_rfl) _ _ bO2 36 _ (0, 0) _ (hA.get 2 _ rfl) NO2 Tryd.underlying36 rfl (size_3 _ _ _)) hA.df ⟨congrArg (fun q : Array Value => Ending.returned (.agg q)) ?_, HB⟩
    unfold opC openZ
    revert c1 c2 c3 c6
    simp +contextual [bit3_ne, bit1_ne]
  refine W_gval hA rfl rfl rfl 18 rfl (by decide) _ _ (R_mov hA rfl rfl _) (fun a hA => ?_)
  refine W_val hA rfl 19 rfl (by decide) _ _ (R_pick hA rfl rfl rfl _) (fun a hA => ?_)
  refine W_val hA rfl 20 rfl (by decide) _ _ (R_mov hA rfl rfl _) (fun a hA => ?_)
  refine W_split hA 20 rfl (fun c8 hA => ?_) (fun c8 hA => ?_)
  · skip
    refine W_gskip hA rfl rfl rfl 21 rfl (by decide) (fun a hA => ?_)
    refine W_gskip hA rfl rfl rfl 22 rfl (by decide) (fun a hA => ?_)
    refine W_gskip hA rfl rfl rfl 23 rfl (by decide) (fun a hA => ?_)
    refine W_gskip hA rfl rfl rfl 24 rfl (by decide) (fun a hA => ?_)
    refine W_val hA rfl 25 rfl (by decide) _ _ (R_pick hA rfl rfl rfl _) (fun a hA => ?_)
    refine W_val hA rfl 26 rfl (by decide) _ _ (R_fa hA rfl rfl (fun w => fa_hart _ 3 34 (by decide) rfl w) _) (fun a hA => ?_)
    refine W_val hA rfl 27 rfl (by decide) _ _ (R_ld hA rfl rfl ag_bool HH.v) (fun a hA => ?_)
    refine W_val hA rfl 28 rfl (by decide) _ _ (R_mov hA rfl rfl _) (fun a hA => ?_)
    refine W_split hA 28 rfl (fun c9 hA => ?_) (fun c9 hA => ?_)
    · skip
      refine W_gval hA rfl rfl rfl 29 rfl (by decide) _ _ (R_mov hA rfl rfl _) (fun a hA => ?_)
      refine W_gval hA rfl rfl rfl 30 rfl (by decide) _ _ (R_mov hA rfl rfl _) (fun a hA => ?_)
      refine W_split hA 30 rfl (fun c10 hA => ?_) (fun c10 hA => ?_)
      · skip
        refine W_gskip hA rfl rfl rfl 31 rfl (by decide) (fun a hA => ?_)
        refine W_gskip hA rfl rfl rfl 32 rfl (by decide) (fun a hA => ?_)
        refine W_gskip hA rfl rfl rfl 33 rfl (by decide) (fun a hA => ?_)
        refine W_gskip hA rfl rfl rfl 34 rfl (by decide) (fun a hA => ?_)
        refine W_gval hA rfl rfl rfl 35 rfl (by decide) _ _ (R_pick hA rfl rfl rfl _) (fun a hA => ?_)
        refine W_val hA rfl 36 rfl (by decide) _ _ (R_pick hA rfl rfl rfl _) (fun a hA => ?_)
        refine W_val hA rfl 37 rfl (by decide) _ _ (R_build (ps := [(0, .const (.bool true)), (1, .tmp 25), (2, .tmp 36)]) hA rfl [(0, .bool true), (1, .bool _), (2, .bool _)] rfl (bld3b _ _ _) _) (fun a hA => ?_)
        refine W_st3 hA rfl rfl rfl rfl rfl O2 rfl (fun w10 hT NO2 => ?_)
        replace HB := HB.trans (hT.bel _ gO2)
        replace HH := hT.hart HH (by omega)
        refine W_nil ?_
        refine then_nrm ?_
        show Code.wp Tryd.prog _ _ _ _
        refine wp_ret ?_
        refine bodyPost_ret (results_cell_row (by kernel_rfl) _ _ bO2 36 _ (0, 0) _ (hA.get 2 _ rfl) NO2 Tryd.underlying36 rfl (size_3 _ _ _)) hA.df ⟨congrArg (fun q : Array Value => Ending.returned (.agg q)) ?_, HB⟩
        unfold opC openZ
        revert c1 c2 c8 c9 c10
        simp +contextual [bit3_ne, bit1_ne]
      refine W_gval hA rfl rfl rfl 31 rfl (by decide) _ _ (R_fa hA rfl rfl (fun w => fa_hart _ 37 68 (by decide) rfl w) _) (fun a hA => ?_)
      refine W_gval hA rfl rfl rfl 32 rfl (by decide) _ _ (R_ld hA rfl rfl ag_u64 (HH.u 68 (by decide) (by decide))) (fun a hA => ?_)
      refine W_gval hA rfl rfl rfl 33 rfl (by decide) _ _ (R_and hA rfl rfl rfl _) (fun a hA => ?_)
      refine W_gval hA rfl rfl rfl 34 rfl (by decide) _ _ (R_neqU hA rfl rfl rfl _) (fun a hA => ?_)
      refine W_gval hA rfl rfl rfl 35 rfl (by decide) _ _ (R_pick hA rfl rfl rfl _) (fun a hA => ?_)
      refine W_val hA rfl 36 rfl (by decide) _ _ (R_pick hA rfl rfl rfl _) (fun a hA => ?_)
      refine W_val hA rfl 37 rfl (by decide) _ _ (R_build (ps := [(0, .const (.bool true)), (1, .tmp 25), (2, .tmp 36)]) hA rfl [(0, .bool true), (1, .bool _), (2, .bool _)] rfl (bld3b _ _ _) _) (fun a hA => ?_)
      refine W_st3 hA rfl rfl rfl rfl rfl O2 rfl (fun w11 hT NO2 => ?_)
      replace HB := HB.trans (hT.bel _ gO2)
      replace HH := hT.hart HH (by omega)
      refine W_nil ?_
      refine then_nrm ?_
      show Code.wp Tryd.prog _ _ _ _
      refine wp_ret ?_
      refine bodyPost_ret (results_cell_row (by kernel_rfl) _ _ bO2 36 _ (0, 0) _ (hA.get 2 _ rfl) NO2 Tryd.underlying36 rfl (size_3 _ _ _)) hA.df ⟨congrArg (fun q : Array Value => Ending.returned (.agg q)) ?_, HB⟩
      unfold opC openZ
      revert c1 c2 c8 c9 c10
      simp +contextual [bit3_ne, bit1_ne]
    refine W_gskip hA rfl rfl rfl 29 rfl (by decide) (fun a hA => ?_)
    refine W_gskip hA rfl rfl rfl 30 rfl (by decide) (fun a hA => ?_)
    refine W_gskipU hA rfl rfl rfl 31 rfl (by decide) (fun a hA => ?_)
    refine W_gskipU hA rfl rfl rfl 32 rfl (by decide) (fun a hA => ?_)
    refine W_gskipU hA rfl rfl rfl 33 rfl (by decide) (fun a hA => ?_)
    refine W_gskipU hA rfl rfl rfl 34 rfl (by decide) (fun a hA => ?_)
    refine W_gskip hA rfl rfl rfl 35 rfl (by decide) (fun a hA => ?_)
    refine W_val hA rfl 36 rfl (by decide) _ _ (R_pick hA rfl rfl rfl _) (fun a hA => ?_)
    refine W_val hA rfl 37 rfl (by decide) _ _ (R_build (ps := [(0, .const (.bool true)), (1, .tmp 25), (2, .tmp 36)]) hA rfl [(0, .bool true), (1, .bool _), (2, .bool _)] rfl (bld3b _ _ _) _) (fun a hA => ?_)
    refine W_st3 hA rfl rfl rfl rfl rfl O2 rfl (fun w12 hT NO2 => ?_)
    replace HB := HB.trans (hT.bel _ gO2)
    replace HH := hT.hart HH (by omega)
    refine W_nil ?_
    refine then_nrm ?_
    show Code.wp Tryd.prog _ _ _ _
    refine wp_ret ?_
    refine bodyPost_ret (results_cell_row (by kernel_rfl) _ _ bO2 36 _ (0, 0) _ (hA.get 2 _ rfl) NO2 Tryd.underlying36 rfl (size_3 _ _ _)) hA.df ⟨congrArg (fun q : Array Value => Ending.returned (.agg q)) ?_, HB⟩
    unfold opC openZ
    revert c1 c2 c8 c9
    simp +contextual [bit3_ne, bit1_ne]
  refine W_gval hA rfl rfl rfl 21 rfl (by decide) _ _ (R_fa hA rfl rfl (fun w => fa_hart _ 7 38 (by decide) rfl w) _) (fun a hA => ?_)
  refine W_gval hA rfl rfl rfl 22 rfl (by decide) _ _ (R_ld hA rfl rfl ag_u64 (HH.u 38 (by decide) (by decide))) (fun a hA => ?_)
  refine W_gval hA rfl rfl rfl 23 rfl (by decide) _ _ (R_and hA rfl rfl rfl _) (fun a hA => ?_)
  refine W_gval hA rfl rfl rfl 24 rfl (by decide) _ _ (R_neqU hA rfl rfl rfl _) (fun a hA => ?_)
  refine W_val hA rfl 25 rfl (by decide) _ _ (R_pick hA rfl rfl rfl _) (fun a hA => ?_)
  refine W_val hA rfl 26 rfl (by decide) _ _ (R_fa hA rfl rfl (fun w => fa_hart _ 3 34 (by decide) rfl w) _) (fun a hA => ?_)
  refine W_val hA rfl 27 rfl (by decide) _ _ (R_ld hA rfl rfl ag_bool HH.v) (fun a hA => ?_)
  refine W_val hA rfl 28 rfl (by decide) _ _ (R_mov hA rfl rfl _) (fun a hA => ?_)
  refine W_split hA 28 rfl (fun c11 hA => ?_) (fun c11 hA => ?_)
  · skip
    refine W_gval hA rfl rfl rfl 29 rfl (by decide) _ _ (R_mov hA rfl rfl _) (fun a hA => ?_)
    refine W_gval hA rfl rfl rfl 30 rfl (by decide) _ _ (R_mov hA rfl rfl _) (fun a hA => ?_)
    refine W_split hA 30 rfl (fun c12 hA => ?_) (fun c12 hA => ?_)
    · skip
      refine W_gskip hA rfl rfl rfl 31 rfl (by decide) (fun a hA => ?_)
      refine W_gskip hA rfl rfl rfl 32 rfl (by decide) (fun a hA => ?_)
      refine W_gskip hA rfl rfl rfl 33 rfl (by decide) (fun a hA => ?_)
      refine W_gskip hA rfl rfl rfl 34 rfl (by decide) (fun a hA => ?_)
      refine W_gval hA rfl rfl rfl 35 rfl (by decide) _ _ (R_pick hA rfl rfl rfl _) (fun a hA => ?_)
      refine W_val hA rfl 36 rfl (by decide) _ _ (R_pick hA rfl rfl rfl _) (fun a hA => ?_)
      refine W_val hA rfl 37 rfl (by decide) _ _ (R_build (ps := [(0, .const (.bool true)), (1, .tmp 25), (2, .tmp 36)]) hA rfl [(0, .bool true), (1, .bool _), (2, .bool _)] rfl (bld3b _ _ _) _) (fun a hA => ?_)
      refine W_st3 hA rfl rfl rfl rfl rfl O2 rfl (fun w13 hT NO2 => ?_)
      replace HB := HB.trans (hT.bel _ gO2)
      replace HH := hT.hart HH (by omega)
      refine W_nil ?_
      refine then_nrm ?_
      show Code.wp Tryd.prog _ _ _ _
      refine wp_ret ?_
      refine bodyPost_ret (results_cell_row (by kernel_rfl) _ _ bO2 36 _ (0, 0) _ (hA.get 2 _ rfl) NO2 Tryd.underlying36 rfl (size_3 _ _ _)) hA.df ⟨congrArg (fun q : Array Value => Ending.returned (.agg q)) ?_, HB⟩
      unfold opC openZ
      revert c1 c2 c8 c11 c12
      simp +contextual [bit3_ne, bit1_ne]
    refine W_gval hA rfl rfl rfl 31 rfl (by decide) _ _ (R_fa hA rfl rfl (fun w => fa_hart _ 37 68 (by decide) rfl w) _) (fun a hA => ?_)
    refine W_gval hA rfl rfl rfl 32 rfl (by decide) _ _ (R_ld hA rfl rfl ag_u64 (HH.u 68 (by decide) (by decide))) (fun a hA => ?_)
    refine W_gval hA rfl rfl rfl 33 rfl (by decide) _ _ (R_and hA rfl rfl rfl _) (fun a hA => ?_)
    refine W_gval hA rfl rfl rfl 34 rfl (by decide) _ _ (R_neqU hA rfl rfl rfl _) (fun a hA => ?_)
    refine W_gval hA rfl rfl rfl 35 rfl (by decide) _ _ (R_pick hA rfl rfl rfl _) (fun a hA => ?_)
    refine W_val hA rfl 36 rfl (by decide) _ _ (R_pick hA rfl rfl rfl _) (fun a hA => ?_)
    refine W_val hA rfl 37 rfl (by decide) _ _ (R_build (ps := [(0, .const (.bool true)), (1, .tmp 25), (2, .tmp 36)]) hA rfl [(0, .bool true), (1, .bool _), (2, .bool _)] rfl (bld3b _ _ _) _) (fun a hA => ?_)
    refine W_st3 hA rfl rfl rfl rfl rfl O2 rfl (fun w14 hT NO2 => ?_)
    replace HB := HB.trans (hT.bel _ gO2)
    replace HH := hT.hart HH (by omega)
    refine W_nil ?_
    refine then_nrm ?_
    show Code.wp Tryd.prog _ _ _ _
    refine wp_ret ?_
    refine bodyPost_ret (results_cell_row (by kernel_rfl) _ _ bO2 36 _ (0, 0) _ (hA.get 2 _ rfl) NO2 Tryd.underlying36 rfl (size_3 _ _ _)) hA.df ⟨congrArg (fun q : Array Value => Ending.returned (.agg q)) ?_, HB⟩
    unfold opC openZ
    revert c1 c2 c8 c11 c12
    simp +contextual [bit3_ne, bit1_ne]
  refine W_gskip hA rfl rfl rfl 29 rfl (by decide) (fun a hA => ?_)
  refine W_gskip hA rfl rfl rfl 30 rfl (by decide) (fun a hA => ?_)
  refine W_gskipU hA rfl rfl rfl 31 rfl (by decide) (fun a hA => ?_)
  refine W_gskipU hA rfl rfl rfl 32 rfl (by decide) (fun a hA => ?_)
  refine W_gskipU hA rfl rfl rfl 33 rfl (by decide) (fun a hA => ?_)
  refine W_gskipU hA rfl rfl rfl 34 rfl (by decide) (fun a hA => ?_)
  refine W_gskip hA rfl rfl rfl 35 rfl (by decide) (fun a hA => ?_)
  refine W_val hA rfl 36 rfl (by decide) _ _ (R_pick hA rfl rfl rfl _) (fun a hA => ?_)
  refine W_val hA rfl 37 rfl (by decide) _ _ (R_build (ps := [(0, .const (.bool true)), (1, .tmp 25), (2, .tmp 36)]) hA rfl [(0, .bool true), (1, .bool _), (2, .bool _)] rfl (bld3b _ _ _) _) (fun a hA => ?_)
  refine W_st3 hA rfl rfl rfl rfl rfl O2 rfl (fun w15 hT NO2 => ?_)
  replace HB := HB.trans (hT.bel _ gO2)
  replace HH := hT.hart HH (by omega)
  refine W_nil ?_
  refine then_nrm ?_
  show Code.wp Tryd.prog _ _ _ _
  refine wp_ret ?_
  refine bodyPost_ret (results_cell_row (by kernel_rfl) _ _ bO2 36 _ (0, 0) _ (hA.get 2 _ rfl) NO2 Tryd.underlying36 rfl (size_3 _ _ _)) hA.df ⟨congrArg (fun q : Array Value => Ending.returned (.agg q)) ?_, HB⟩
  unfold opC openZ
  revert c1 c2 c8 c11
  simp +contextual [bit3_ne, bit1_ne]
set_option maxHeartbeats 8000000 in
theorem dbit13_any (x : Int) (hx : In64 x) (k : Nat) (hk : k < 64) (w : World) : Calls Tryd.prog 19 #[.int .u64 x, .int .i64 k] w fun e w' => e = .returned (.bool (bitZ x k)) ∧ w = w' := by
  have HB := Below.refl w.heap.size w
  go_enter Tryd.func19, Tryd.ntmps19
  refine begin_fr [(1, .int .i64 k), (0, .int .u64 x)] 11 ?_ (fun a hA => ?_)
  · exact FrA.add (FrA.add (FrA.nil (by rfl) (by rfl)) 0 _ (by rfl)) 1 _ (by rfl)
  refine wp_seq ?_
  refine wp_region_list ?_
  refine W_val hA rfl 4 rfl (by decide) _ _ (R_asg hA rfl rfl _) (fun a hA => ?_)
  refine W_nil ?_
  refine then_nrm ?_
  show Code.wp Tryd.prog _ _ _ _
  refine wp_seq ?_
  refine wp_region_list ?_
  refine W_val hA rfl 5 rfl (by decide) _ _ (R_mov hA rfl rfl _) (fun a hA => ?_)
  refine W_val hA rfl 6 rfl (by decide) _ _ (R_mov hA rfl rfl _) (fun a hA => ?_)
  refine W_val hA rfl 7 rfl (by decide) _ _ (R_cvIU hA rfl rfl _) (fun a hA => ?_)
  refine W_val hA rfl 8 rfl (by decide) _ _ (R_shrN hA rfl k rfl hx.1 hk rfl _) (fun a hA => ?_)
  refine W_val hA rfl 9 rfl (by decide) _ _ (R_and hA rfl rfl rfl _) (fun a hA => ?_)
  refine W_val hA rfl 10 rfl (by decide) _ _ (R_eqlU hA rfl rfl rfl _) (fun a hA => ?_)
  refine W_val hA rfl 4 rfl (by decide) _ _ (R_asg hA rfl rfl _) (fun a hA => ?_)
  refine W_nil ?_
  refine then_nrm ?_
  show Code.wp Tryd.prog _ _ _ _
  refine wp_ret ?_
  exact ret_tmp (j := 4) (by kernel_rfl) hA (by decide) rfl ⟨congrArg (fun q : Bool => Ending.returned (.bool q)) (has_bit hx k), rfl⟩
set_option maxHeartbeats 8000000 in
theorem dlevel_any (t : HS) (ok : HOk t) (n : Nat) (hn : n < 64) (w : World) : Calls Tryd.prog 20 #[hartV t, .int .i64 n] w fun e w' => e = .returned (.int .i64 (lvlZ t n)) ∧ Below w.heap.size w w' := by
  have HB := Below.refl w.heap.size w
  go_enter Tryd.func20, Tryd.ntmps20
  refine begin_fr [(1, .int .i64 n), (0, hartV t)] 15 ?_ (fun a hA => ?_)
  · exact FrA.add (FrA.add (FrA.nil (by rfl) (by rfl)) 0 _ (by rfl)) 1 _ (by rfl)
  refine wp_seq ?_
  refine wp_region_list ?_
  refine W_boxH hA rfl 2 rfl (by decide) rfl rfl (fun w1 bHH a hA hb HH gHH => ?_)
  replace gHH := Nat.le_trans HB.size gHH
  replace HB := HB.trans (hb.mono HB.size)
  clear hb
  refine W_val hA rfl 4 rfl (by decide) _ _ (R_asg hA rfl rfl _) (fun a hA => ?_)
  refine W_nil ?_
  refine then_nrm ?_
  show Code.wp Tryd.prog _ _ _ _
  refine wp_seq ?_
  refine wp_seq ?_
  refine wp_region_list ?_
  refine W_val hA rfl 5 rfl (by decide) _ _ (R_fa hA rfl rfl (fun w => fa_hart _ 9 40 (by decide) rfl w) _) (fun a hA => ?_)
  refine W_val hA rfl 6 rfl (by decide) _ _ (R_ld hA rfl rfl ag_u64 (HH.u 40 (by decide) (by decide))) (fun a hA => ?_)
  refine W_val hA rfl 7 rfl (by decide) _ _ (R_mov hA rfl rfl _) (fun a hA => ?_)
  refine W_call2 hA (by decide) (fun _ _ => by kernel_rfl) rfl rfl (dbit13_any _ (ok.n _) n (by omega) _) (fun w2 hw a hA => ?_)
  subst hw
  refine W_val hA rfl 9 rfl (by decide) _ _ (R_not hA rfl rfl _) (fun a hA => ?_)
  refine W_nil ?_
  refine then_nrm ?_
  show Code.wp Tryd.prog _ _ _ _
  refine wp_cond_split (hA.ev (x := .tmp 9) rfl) (fun c1 => ?_) (fun c1 => ?_)
  · skip
    refine wp_seq ?_
    refine wp_region_list ?_
    refine W_val hA rfl 4 rfl (by decide) _ _ (R_asg hA rfl rfl _) (fun a hA => ?_)
    refine W_nil ?_
    refine then_nrm ?_
    show Code.wp Tryd.prog _ _ _ _
    refine wp_ret ?_
    refine then_ret ?_
    refine ret_tmp (j := 4) (by kernel_rfl) hA (by decide) rfl ?_
    refine ⟨congrArg (fun x : Int => Ending.returned (.int .i64 x)) ?_, HB⟩
    unfold lvlZ
    simp only [c1, if_true, if_false, Bool.false_eq_true]
    rfl
  refine wp_skip ?_
  refine then_nrm ?_
  show Code.wp Tryd.prog _ _ _ _
  refine wp_seq ?_
  refine wp_seq ?_
  refine wp_region_list ?_
  refine W_val hA rfl 10 rfl (by decide) _ _ (R_fa hA rfl rfl (fun w => fa_hart _ 29 60 (by decide) rfl w) _) (fun a hA => ?_)
  refine W_val hA rfl 11 rfl (by decide) _ _ (R_ld hA rfl rfl ag_u64 (HH.u 60 (by decide) (by decide))) (fun a hA => ?_)
  refine W_val hA rfl 12 rfl (by decide) _ _ (R_mov hA rfl rfl _) (fun a hA => ?_)
  refine W_call2 hA (by decide) (fun _ _ => by kernel_rfl) rfl rfl (dbit13_any _ (ok.n _) n (by omega) _) (fun w3 hw a hA => ?_)
  subst hw
  refine W_val hA rfl 14 rfl (by decide) _ _ (R_not hA rfl rfl _) (fun a hA => ?_)
  refine W_nil ?_
  refine then_nrm ?_
  show Code.wp Tryd.prog _ _ _ _
  refine wp_cond_split (hA.ev (x := .tmp 14) rfl) (fun c2 => ?_) (fun c2 => ?_)
  · skip
    refine wp_seq ?_
    refine wp_region_list ?_
    refine W_val hA rfl 4 rfl (by decide) _ _ (R_asg hA rfl rfl _) (fun a hA => ?_)
    refine W_nil ?_
    refine then_nrm ?_
    show Code.wp Tryd.prog _ _ _ _
    refine wp_ret ?_
    refine then_ret ?_
    refine ret_tmp (j := 4) (by kernel_rfl) hA (by decide) rfl ?_
    refine ⟨congrArg (fun x : Int => Ending.returned (.int .i64 x)) ?_, HB⟩
    unfold lvlZ
    simp only [c1, c2, if_true, if_false, Bool.false_eq_true]
    rfl
  refine wp_skip ?_
  refine then_nrm ?_
  show Code.wp Tryd.prog _ _ _ _
  refine wp_seq ?_
  refine wp_region_list ?_
  refine W_val hA rfl 4 rfl (by decide) _ _ (R_asg hA rfl rfl _) (fun a hA => ?_)
  refine W_nil ?_
  refine then_nrm ?_
  show Code.wp Tryd.prog _ _ _ _
  refine wp_ret ?_
  refine ret_tmp (j := 4) (by kernel_rfl) hA (by decide) rfl ?_
  refine ⟨congrArg (fun x : Int => Ending.returned (.int .i64 x)) ?_, HB⟩
  unfold lvlZ
  simp only [c1, c2, if_true, if_false, Bool.false_eq_true]
  rfl
set_option maxHeartbeats 8000000 in
theorem dopen_any (t : HS) (ok : HOk t) (lv : Nat) (w : World) : Calls Tryd.prog 21 #[hartV t, .int .i64 lv] w fun e w' => e = .returned (.bool (openZ t lv)) ∧ Below w.heap.size w w' := by
  have HB := Below.refl w.heap.size w
  go_enter Tryd.func21, Tryd.ntmps21
  refine begin_fr [(1, .int .i64 lv), (0, hartV t)] 44 ?_ (fun a hA => ?_)
  · exact FrA.add (FrA.add (FrA.nil (by rfl) (by rfl)) 0 _ (by rfl)) 1 _ (by rfl)
  refine wp_seq ?_
  refine wp_region_list ?_
  refine W_boxH hA rfl 2 rfl (by decide) rfl rfl (fun w1 bHH a hA hb HH gHH => ?_)
  replace gHH := Nat.le_trans HB.size gHH
  replace HB := HB.trans (hb.mono HB.size)
  clear hb
  refine W_val hA rfl 4 rfl (by decide) _ _ (R_asg hA rfl rfl _) (fun a hA => ?_)
  refine W_nil ?_
  refine then_nrm ?_
  show Code.wp Tryd.prog _ _ _ _
  refine wp_seq ?_
  refine wp_seq ?_
  refine wp_region_list ?_
  refine W_val hA rfl 5 rfl (by decide) _ _ (R_mov hA rfl rfl _) (fun a hA => ?_)
  refine W_val hA rfl 6 rfl (by decide) _ _ (R_eqlI hA rfl rfl rfl _) (fun a hA => ?_)
  refine W_nil ?_
  refine then_nrm ?_
  show Code.wp Tryd.prog _ _ _ _
  refine wp_cond_split (hA.ev (x := .tmp 6) rfl) (fun c1 => ?_) (fun c1 => ?_)
  · skip
    refine wp_seq ?_
    refine wp_region_list ?_
    refine W_val hA rfl 7 rfl (by decide) _ _ (R_fa hA rfl rfl (fun w => fa_hart _ 2 33 (by decide) rfl w) _) (fun a hA => ?_)
    refine W_val hA rfl 8 rfl (by decide) _ _ (R_ld hA rfl rfl ag_u8 HH.p) (fun a hA => ?_)
    refine W_val hA rfl 9 rfl (by decide) _ _ (R_neqB hA rfl rfl rfl _) (fun a hA => ?_)
    refine W_val hA rfl 10 rfl (by decide) _ _ (R_mov hA rfl rfl _) (fun a hA => ?_)
    refine W_split hA 10 rfl (fun c2 hA => ?_) (fun c2 hA => ?_)
    · skip
      refine W_gskip hA rfl rfl rfl 11 rfl (by decide) (fun a hA => ?_)
      refine W_gskip hA rfl rfl rfl 12 rfl (by decide) (fun a hA => ?_)
      refine W_gskip hA rfl rfl rfl 13 rfl (by decide) (fun a hA => ?_)
      refine W_val hA rfl 14 rfl (by decide) _ _ (R_pick hA rfl rfl rfl _) (fun a hA => ?_)
      refine W_val hA rfl 4 rfl (by decide) _ _ (R_asg hA rfl rfl _) (fun a hA => ?_)
      refine W_nil ?_
      refine then_nrm ?_
      show Code.wp Tryd.prog _ _ _ _
      refine wp_ret ?_
      refine then_ret ?_
      refine ret_tmp (j := 4) (by kernel_rfl) hA (by decide) rfl ?_
      refine ⟨congrArg (fun x : Bool => Ending.returned (.bool x)) ?_, HB⟩
      unfold openZ
      revert c1 c2
      simp +contextual [lv_0, lv_1]
    refine W_gval hA rfl rfl rfl 11 rfl (by decide) _ _ (R_fa hA rfl rfl (fun w => fa_hart _ 7 38 (by decide) rfl w) _) (fun a hA => ?_)
    refine W_gval hA rfl rfl rfl 12 rfl (by decide) _ _ (R_ld hA rfl rfl ag_u64 (HH.u 38 (by decide) (by decide))) (fun a hA => ?_)
    refine W_gcall hA rfl rfl (by decide) (fun _ _ => by kernel_rfl) (args2 hA rfl rfl) (dbit13_any _ (ok.n _) 3 (by omega) _) (fun w2 hw a hA => ?_)
    subst hw
    refine W_val hA rfl 14 rfl (by decide) _ _ (R_pick hA rfl rfl rfl _) (fun a hA => ?_)
    refine W_val hA rfl 4 rfl (by decide) _ _ (R_asg hA rfl rfl _) (fun a hA => ?_)
    refine W_nil ?_
    refine then_nrm ?_
    show Code.wp Tryd.prog _ _ _ _
    refine wp_ret ?_
    refine then_ret ?_
    refine ret_tmp (j := 4) (by kernel_rfl) hA (by decide) rfl ?_
    refine ⟨congrArg (fun x : Bool => Ending.returned (.bool x)) ?_, HB⟩
    unfold openZ
    revert c1 c2
    simp +contextual [lv_0, lv_1]
  refine wp_skip ?_
  refine then_nrm ?_
  show Code.wp Tryd.prog _ _ _ _
  refine wp_seq ?_
  refine wp_seq ?_
  refine wp_region_list ?_
  refine W_val hA rfl 15 rfl (by decide) _ _ (R_fa hA rfl rfl (fun w => fa_hart _ 2 33 (by decide) rfl w) _) (fun a hA => ?_)
  refine W_val hA rfl 16 rfl (by decide) _ _ (R_ld hA rfl rfl ag_u8 HH.p) (fun a hA => ?_)
  refine W_val hA rfl 17 rfl (by decide) _ _ (R_eqlB hA rfl rfl rfl _) (fun a hA => ?_)
  refine W_nil ?_
  refine then_nrm ?_
  show Code.wp Tryd.prog _ _ _ _
  refine wp_cond_split (hA.ev (x := .tmp 17) rfl) (fun c3 => ?_) (fun c3 => ?_)
  · skip
    refine wp_seq ?_
    refine wp_region_list ?_
    refine W_val hA rfl 4 rfl (by decide) _ _ (R_asg hA rfl rfl _) (fun a hA => ?_)
    refine W_nil ?_
    refine then_nrm ?_
    show Code.wp Tryd.prog _ _ _ _
    refine wp_ret ?_
    refine then_ret ?_
    refine ret_tmp (j := 4) (by kernel_rfl) hA (by decide) rfl ?_
    refine ⟨congrArg (fun x : Bool => Ending.returned (.bool x)) ?_, HB⟩
    unfold openZ
    revert c1 c3
    simp +contextual [lv_0, lv_1]
  refine wp_skip ?_
  refine then_nrm ?_
  show Code.wp Tryd.prog _ _ _ _
  refine wp_seq ?_
  refine wp_seq ?_
  refine wp_region_list ?_
  refine W_val hA rfl 18 rfl (by decide) _ _ (R_mov hA rfl rfl _) (fun a hA => ?_)
  refine W_val hA rfl 19 rfl (by decide) _ _ (R_eqlI hA rfl rfl rfl _) (fun a hA => ?_)
  refine W_nil ?_
  refine then_nrm ?_
  show Code.wp Tryd.prog _ _ _ _
  refine wp_cond_split (hA.ev (x := .tmp 19) rfl) (fun c4 => ?_) (fun c4 => ?_)
  · skip
    refine wp_seq ?_
    refine wp_region_list ?_
    refine W_val hA rfl 20 rfl (by decide) _ _ (R_fa hA rfl rfl (fun w => fa_hart _ 3 34 (by decide) rfl w) _) (fun a hA => ?_)
    refine W_val hA rfl 21 rfl (by decide) _ _ (R_ld hA rfl rfl ag_bool HH.v) (fun a hA => ?_)
    refine W_val hA rfl 22 rfl (by decide) _ _ (R_mov hA rfl rfl _) (fun a hA => ?_)
    refine W_split hA 22 rfl (fun c5 hA => ?_) (fun c5 hA => ?_)
    · skip
      refine W_gskip hA rfl rfl rfl 23 rfl (by decide) (fun a hA => ?_)
      refine W_gskip hA rfl rfl rfl 24 rfl (by decide) (fun a hA => ?_)
      refine W_gskip hA rfl rfl rfl 25 rfl (by decide) (fun a hA => ?_)
      refine W_val hA rfl 26 rfl (by decide) _ _ (R_pick hA rfl rfl rfl _) (fun a hA => ?_)
      refine W_val hA rfl 27 rfl (by decide) _ _ (R_mov hA rfl rfl _) (fun a hA => ?_)
      refine W_split hA 27 rfl (fun c6 hA => ?_) (fun c6 hA => ?_)
      · skip
        refine W_gskip hA rfl rfl rfl 28 rfl (by decide) (fun a hA => ?_)
        refine W_gskip hA rfl rfl rfl 29 rfl (by decide) (fun a hA => ?_)
        refine W_gskip hA rfl rfl rfl 30 rfl (by decide) (fun a hA => ?_)
        refine W_val hA rfl 31 rfl (by decide) _ _ (R_pick hA rfl rfl rfl _) (fun a hA => ?_)
        refine W_val hA rfl 4 rfl (by decide) _ _ (R_asg hA rfl rfl _) (fun a hA => ?_)
        refine W_nil ?_
        refine then_nrm ?_
        show Code.wp Tryd.prog _ _ _ _
        refine wp_ret ?_
        refine then_ret ?_
        refine ret_tmp (j := 4) (by kernel_rfl) hA (by decide) rfl ?_
        refine ⟨congrArg (fun x : Bool => Ending.returned (.bool x)) ?_, HB⟩
        unfold openZ
        revert c1 c3 c4 c5 c6
        simp +contextual [lv_0, lv_1]
      refine W_gval hA rfl rfl rfl 28 rfl (by decide) _ _ (R_fa hA rfl rfl (fun w => fa_hart _ 7 38 (by decide) rfl w) _) (fun a hA => ?_)
      refine W_gval hA rfl rfl rfl 29 rfl (by decide) _ _ (R_ld hA rfl rfl ag_u64 (HH.u 38 (by decide) (by decide))) (fun a hA => ?_)
      refine W_gcall hA rfl rfl (by decide) (fun _ _ => by kernel_rfl) (args2 hA rfl rfl) (dbit13_any _ (ok.n _) 1 (by omega) _) (fun w3 hw a hA => ?_)
      subst hw
      refine W_val hA rfl 31 rfl (by decide) _ _ (R_pick hA rfl rfl rfl _) (fun a hA => ?_)
      refine W_val hA rfl 4 rfl (by decide) _ _ (R_asg hA rfl rfl _) (fun a hA => ?_)
      refine W_nil ?_
      refine then_nrm ?_
      show Code.wp Tryd.prog _ _ _ _
      refine wp_ret ?_
      refine then_ret ?_
      refine ret_tmp (j := 4) (by kernel_rfl) hA (by decide) rfl ?_
      refine ⟨congrArg (fun x : Bool => Ending.returned (.bool x)) ?_, HB⟩
      unfold openZ
      revert c1 c3 c4 c5 c6
      simp +contextual [lv_0, lv_1]
    refine W_gval hA rfl rfl rfl 23 rfl (by decide) _ _ (R_fa hA rfl rfl (fun w => fa_hart _ 2 33 (by decide) rfl w) _) (fun a hA => ?_)
    refine W_gval hA rfl rfl rfl 24 rfl (by decide) _ _ (R_ld hA rfl rfl ag_u8 HH.p) (fun a hA => ?_)
    refine W_gval hA rfl rfl rfl 25 rfl (by decide) _ _ (R_eqlB hA rfl rfl rfl _) (fun a hA => ?_)
    refine W_val hA rfl 26 rfl (by decide) _ _ (R_pick hA rfl rfl rfl _) (fun a hA => ?_)
    refine W_val hA rfl 27 rfl (by decide) _ _ (R_mov hA rfl rfl _) (fun a hA => ?_)
    refine W_split hA 27 rfl (fun c7 hA => ?_) (fun c7 hA => ?_)
    · skip
      refine W_gskip hA rfl rfl rfl 28 rfl (by decide) (fun a hA => ?_)
      refine W_gskip hA rfl rfl rfl 29 rfl (by decide) (fun a hA => ?_)
      refine W_gskip hA rfl rfl rfl 30 rfl (by decide) (fun a hA => ?_)
      refine W_val hA rfl 31 rfl (by decide) _ _ (R_pick hA rfl rfl rfl _) (fun a hA => ?_)
      refine W_val hA rfl 4 rfl (by decide) _ _ (R_asg hA rfl rfl _) (fun a hA => ?_)
      refine W_nil ?_
      refine then_nrm ?_
      show Code.wp Tryd.prog _ _ _ _
      refine wp_ret ?_
      refine then_ret ?_
      refine ret_tmp (j := 4) (by kernel_rfl) hA (by decide) rfl ?_
      refine ⟨congrArg (fun x : Bool => Ending.returned (.bool x)) ?_, HB⟩
      unfold openZ
      revert c1 c3 c4 c5 c7
      simp +contextual [lv_0, lv_1]
    refine W_gval hA rfl rfl rfl 28 rfl (by decide) _ _ (R_fa hA rfl rfl (fun w => fa_hart _ 7 38 (by decide) rfl w) _) (fun a hA => ?_)
    refine W_gval hA rfl rfl rfl 29 rfl (by decide) _ _ (R_ld hA rfl rfl ag_u64 (HH.u 38 (by decide) (by decide))) (fun a hA => ?_)
    refine W_gcall hA rfl rfl (by decide) (fun _ _ => by kernel_rfl) (args2 hA rfl rfl) (dbit13_any _ (ok.n _) 1 (by omega) _) (fun w4 hw a hA => ?_)
    subst hw
    refine W_val hA rfl 31 rfl (by decide) _ _ (R_pick hA rfl rfl rfl _) (fun a hA => ?_)
    refine W_val hA rfl 4 rfl (by decide) _ _ (R_asg hA rfl rfl _) (fun a hA => ?_)
    refine W_nil ?_
    refine then_nrm ?_
    show Code.wp Tryd.prog _ _ _ _
    refine wp_ret ?_
    refine then_ret ?_
    refine ret_tmp (j := 4) (by kernel_rfl) hA (by decide) rfl ?_
    refine ⟨congrArg (fun x : Bool => Ending.returned (.bool x)) ?_, HB⟩
    unfold openZ
    revert c1 c3 c4 c5 c7
    simp +contextual [lv_0, lv_1]
  refine wp_skip ?_
  refine then_nrm ?_
  show Code.wp Tryd.prog _ _ _ _
  refine wp_seq ?_
  refine wp_region_list ?_
  refine W_val hA rfl 32 rfl (by decide) _ _ (R_fa hA rfl rfl (fun w => fa_hart _ 3 34 (by decide) rfl w) _) (fun a hA => ?_)
  refine W_val hA rfl 33 rfl (by decide) _ _ (R_ld hA rfl rfl ag_bool HH.v) (fun a hA => ?_)
  refine W_val hA rfl 34 rfl (by decide) _ _ (R_mov hA rfl rfl _) (fun a hA => ?_)
  refine W_split hA 34 rfl (fun c8 hA => ?_) (fun c8 hA => ?_)
  · skip
    refine W_gval hA rfl rfl rfl 35 rfl (by decide) _ _ (R_fa hA rfl rfl (fun w => fa_hart _ 2 33 (by decide) rfl w) _) (fun a hA => ?_)
    refine W_gval hA rfl rfl rfl 36 rfl (by decide) _ _ (R_ld hA rfl rfl ag_u8 HH.p) (fun a hA => ?_)
    refine W_gval hA rfl rfl rfl 37 rfl (by decide) _ _ (R_eqlB hA rfl rfl rfl _) (fun a hA => ?_)
    refine W_gval hA rfl rfl rfl 38 rfl (by decide) _ _ (R_mov hA rfl rfl _) (fun a hA => ?_)
    refine W_split hA 38 rfl (fun c9 hA => ?_) (fun c9 hA => ?_)
    · skip
      refine W_gskip hA rfl rfl rfl 39 rfl (by decide) (fun a hA => ?_)
      refine W_gskip hA rfl rfl rfl 40 rfl (by decide) (fun a hA => ?_)
      refine W_gskip hA rfl rfl rfl 41 rfl (by decide) (fun a hA => ?_)
      refine W_gval hA rfl rfl rfl 42 rfl (by decide) _ _ (R_pick hA rfl rfl rfl _) (fun a hA => ?_)
      refine W_val hA rfl 43 rfl (by decide) _ _ (R_pick hA rfl rfl rfl _) (fun a hA => ?_)
      refine W_val hA rfl 4 rfl (by decide) _ _ (R_asg hA rfl rfl _) (fun a hA => ?_)
      refine W_nil ?_
      refine then_nrm ?_
      show Code.wp Tryd.prog _ _ _ _
      refine wp_ret ?_
      refine ret_tmp (j := 4) (by kernel_rfl) hA (by decide) rfl ?_
      refine ⟨congrArg (fun x : Bool => Ending.returned (.bool x)) ?_, HB⟩
      unfold openZ
      revert c1 c3 c4 c8 c9
      simp +contextual [lv_0, lv_1]
    refine W_gval hA rfl rfl rfl 39 rfl (by decide) _ _ (R_fa hA rfl rfl (fun w => fa_hart _ 37 68 (by decide) rfl w) _) (fun a hA => ?_)
    refine W_gval hA rfl rfl rfl 40 rfl (by decide) _ _ (R_ld hA rfl rfl ag_u64 (HH.u 68 (by decide) (by decide))) (fun a hA => ?_)
    refine W_gcall hA rfl rfl (by decide) (fun _ _ => by kernel_rfl) (args2 hA rfl rfl) (dbit13_any _ (ok.n _) 1 (by omega) _) (fun w5 hw a hA => ?_)
    subst hw
    refine W_gval hA rfl rfl rfl 42 rfl (by decide) _ _ (R_pick hA rfl rfl rfl _) (fun a hA => ?_)
    refine W_val hA rfl 43 rfl (by decide) _ _ (R_pick hA rfl rfl rfl _) (fun a hA => ?_)
    refine W_val hA rfl 4 rfl (by decide) _ _ (R_asg hA rfl rfl _) (fun a hA => ?_)
    refine W_nil ?_
    refine then_nrm ?_
    show Code.wp Tryd.prog _ _ _ _
    refine wp_ret ?_
    refine ret_tmp (j := 4) (by kernel_rfl) hA (by decide) rfl ?_
    refine ⟨congrArg (fun x : Bool => Ending.returned (.bool x)) ?_, HB⟩
    unfold openZ
    revert c1 c3 c4 c8 c9
    simp +contextual [lv_0, lv_1]
  refine W_gskip hA rfl rfl rfl 35 rfl (by decide) (fun a hA => ?_)
  refine W_gskip hA rfl rfl rfl 36 rfl (by decide) (fun a hA => ?_)
  refine W_gskip hA rfl rfl rfl 37 rfl (by decide) (fun a hA => ?_)
  refine W_gskip hA rfl rfl rfl 38 rfl (by decide) (fun a hA => ?_)
  refine W_gskipU hA rfl rfl rfl 39 rfl (by decide) (fun a hA => ?_)
  refine W_gskipU hA rfl rfl rfl 40 rfl (by decide) (fun a hA => ?_)
  refine W_gskipU hA rfl rfl rfl 41 rfl (by decide) (fun a hA => ?_)
  refine W_gskip hA rfl rfl rfl 42 rfl (by decide) (fun a hA => ?_)
  refine W_val hA rfl 43 rfl (by decide) _ _ (R_pick hA rfl rfl rfl _) (fun a hA => ?_)
  refine W_val hA rfl 4 rfl (by decide) _ _ (R_asg hA rfl rfl _) (fun a hA => ?_)
  refine W_nil ?_
  refine then_nrm ?_
  show Code.wp Tryd.prog _ _ _ _
  refine wp_ret ?_
  refine ret_tmp (j := 4) (by kernel_rfl) hA (by decide) rfl ?_
  refine ⟨congrArg (fun x : Bool => Ending.returned (.bool x)) ?_, HB⟩
  unfold openZ
  revert c1 c3 c4 c8
  simp +contextual [lv_0, lv_1]
set_option maxHeartbeats 8000000 in
theorem drank_any (n : Nat) (hn : n < 64) (w : World) : Calls Tryd.prog 22 #[.int .i64 n] w fun e w' => e = .returned (.int .i64 (rankZ n)) ∧ Below w.heap.size w w' := by
  have HB := Below.refl w.heap.size w
  go_enter Tryd.func22, Tryd.ntmps22
  refine begin_fr [(0, .int .i64 n)] 26 ?_ (fun a hA => ?_)
  · exact FrA.add (FrA.nil (by rfl) (by rfl)) 0 _ (by rfl)
  refine wp_seq ?_
  refine wp_region_list ?_
  refine W_val hA rfl 2 rfl (by decide) _ _ (R_asg hA rfl rfl _) (fun a hA => ?_)
  refine W_nil ?_
  refine then_nrm ?_
  show Code.wp Tryd.prog _ _ _ _
  refine wp_seq ?_
  refine wp_seq ?_
  refine wp_region_list ?_
  refine W_val hA rfl 3 rfl (by decide) _ _ (R_mov hA rfl rfl _) (fun a hA => ?_)
  refine W_nil ?_
  refine then_nrm ?_
  show Code.wp Tryd.prog _ _ _ _
  refine wp_block ?_
  refine W_test hA rfl (by decide) (by decide) rfl rfl (fun c1 a hA => ?_) (fun c1 a hA => ?_)
  · skip
    refine wp_seq ?_
    refine wp_region_list ?_
    refine W_val hA rfl 2 rfl (by decide) _ _ (R_asg hA rfl rfl _) (fun a hA => ?_)
    refine W_nil ?_
    refine then_nrm ?_
    show Code.wp Tryd.prog _ _ _ _
    refine wp_ret ?_
    refine blk_ret ?_
    refine then_ret ?_
    refine ret_tmp (j := 2) (by kernel_rfl) hA (by decide) rfl ?_
    refine ⟨congrArg (fun x : Int => Ending.returned (.int .i64 x)) ?_, HB⟩
    have ec1 : n = 11 := by have := eq_of_beq c1; omega
    subst ec1
    rfl
  refine W_test hA rfl (by decide) (by decide) rfl rfl (fun c2 a hA => ?_) (fun c2 a hA => ?_)
  · skip
    refine wp_seq ?_
    refine wp_region_list ?_
    refine W_val hA rfl 2 rfl (by decide) _ _ (R_asg hA rfl rfl _) (fun a hA => ?_)
    refine W_nil ?_
    refine then_nrm ?_
    show Code.wp Tryd.prog _ _ _ _
    refine wp_ret ?_
    refine blk_ret ?_
    refine then_ret ?_
    refine ret_tmp (j := 2) (by kernel_rfl) hA (by decide) rfl ?_
    refine ⟨congrArg (fun x : Int => Ending.returned (.int .i64 x)) ?_, HB⟩
    have dc1 : ¬ n = 11 := by have := beq_eq_false_iff_ne.1 c1; omega
    have ec2 : n = 3 := by have := eq_of_beq c2; omega
    subst ec2
    rfl
  refine W_test hA rfl (by decide) (by decide) rfl rfl (fun c3 a hA => ?_) (fun c3 a hA => ?_)
  · skip
    refine wp_seq ?_
    refine wp_region_list ?_
    refine W_val hA rfl 2 rfl (by decide) _ _ (R_asg hA rfl rfl _) (fun a hA => ?_)
    refine W_nil ?_
    refine then_nrm ?_
    show Code.wp Tryd.prog _ _ _ _
    refine wp_ret ?_
    refine blk_ret ?_
    refine then_ret ?_
    refine ret_tmp (j := 2) (by kernel_rfl) hA (by decide) rfl ?_
    refine ⟨congrArg (fun x : Int => Ending.returned (.int .i64 x)) ?_, HB⟩
    have dc1 : ¬ n = 11 := by have := beq_eq_false_iff_ne.1 c1; omega
    have dc2 : ¬ n = 3 := by have := beq_eq_false_iff_ne.1 c2; omega
    have ec3 : n = 7 := by have := eq_of_beq c3; omega
    subst ec3
    rfl
  refine W_test hA rfl (by decide) (by decide) rfl rfl (fun c4 a hA => ?_) (fun c4 a hA => ?_)
  · skip
    refine wp_seq ?_
    refine wp_region_list ?_
    refine W_val hA rfl 2 rfl (by decide) _ _ (R_asg hA rfl rfl _) (fun a hA => ?_)
    refine W_nil ?_
    refine then_nrm ?_
    show Code.wp Tryd.prog _ _ _ _
    refine wp_ret ?_
    refine blk_ret ?_
    refine then_ret ?_
    refine ret_tmp (j := 2) (by kernel_rfl) hA (by decide) rfl ?_
    refine ⟨congrArg (fun x : Int => Ending.returned (.int .i64 x)) ?_, HB⟩
    have dc1 : ¬ n = 11 := by have := beq_eq_false_iff_ne.1 c1; omega
    have dc2 : ¬ n = 3 := by have := beq_eq_false_iff_ne.1 c2; omega
    have dc3 : ¬ n = 7 := by have := beq_eq_false_iff_ne.1 c3; omega
    have ec4 : n = 9 := by have := eq_of_beq c4; omega
    subst ec4
    rfl
  refine W_test hA rfl (by decide) (by decide) rfl rfl (fun c5 a hA => ?_) (fun c5 a hA => ?_)
  · skip
    refine wp_seq ?_
    refine wp_region_list ?_
    refine W_val hA rfl 2 rfl (by decide) _ _ (R_asg hA rfl rfl _) (fun a hA => ?_)
    refine W_nil ?_
    refine then_nrm ?_
    show Code.wp Tryd.prog _ _ _ _
    refine wp_ret ?_
    refine blk_ret ?_
    refine then_ret ?_
    refine ret_tmp (j := 2) (by kernel_rfl) hA (by decide) rfl ?_
    refine ⟨congrArg (fun x : Int => Ending.returned (.int .i64 x)) ?_, HB⟩
    have dc1 : ¬ n = 11 := by have := beq_eq_false_iff_ne.1 c1; omega
    have dc2 : ¬ n = 3 := by have := beq_eq_false_iff_ne.1 c2; omega
    have dc3 : ¬ n = 7 := by have := beq_eq_false_iff_ne.1 c3; omega
    have dc4 : ¬ n = 9 := by have := beq_eq_false_iff_ne.1 c4; omega
    have ec5 : n = 1 := by have := eq_of_beq c5; omega
    subst ec5
    rfl
  refine W_test hA rfl (by decide) (by decide) rfl rfl (fun c6 a hA => ?_) (fun c6 a hA => ?_)
  · skip
    refine wp_seq ?_
    refine wp_region_list ?_
    refine W_val hA rfl 2 rfl (by decide) _ _ (R_asg hA rfl rfl _) (fun a hA => ?_)
    refine W_nil ?_
    refine then_nrm ?_
    show Code.wp Tryd.prog _ _ _ _
    refine wp_ret ?_
    refine blk_ret ?_
    refine then_ret ?_
    refine ret_tmp (j := 2) (by kernel_rfl) hA (by decide) rfl ?_
    refine ⟨congrArg (fun x : Int => Ending.returned (.int .i64 x)) ?_, HB⟩
    have dc1 : ¬ n = 11 := by have := beq_eq_false_iff_ne.1 c1; omega
    have dc2 : ¬ n = 3 := by have := beq_eq_false_iff_ne.1 c2; omega
    have dc3 : ¬ n = 7 := by have := beq_eq_false_iff_ne.1 c3; omega
    have dc4 : ¬ n = 9 := by have := beq_eq_false_iff_ne.1 c4; omega
    have dc5 : ¬ n = 1 := by have := beq_eq_false_iff_ne.1 c5; omega
    have ec6 : n = 5 := by have := eq_of_beq c6; omega
    subst ec6
    rfl
  refine W_test hA rfl (by decide) (by decide) rfl rfl (fun c7 a hA => ?_) (fun c7 a hA => ?_)
  · skip
    refine wp_seq ?_
    refine wp_region_list ?_
    refine W_val hA rfl 2 rfl (by decide) _ _ (R_asg hA rfl rfl _) (fun a hA => ?_)
    refine W_nil ?_
    refine then_nrm ?_
    show Code.wp Tryd.prog _ _ _ _
    refine wp_ret ?_
    refine blk_ret ?_
    refine then_ret ?_
    refine ret_tmp (j := 2) (by kernel_rfl) hA (by decide) rfl ?_
    refine ⟨congrArg (fun x : Int => Ending.returned (.int .i64 x)) ?_, HB⟩
    have dc1 : ¬ n = 11 := by have := beq_eq_false_iff_ne.1 c1; omega
    have dc2 : ¬ n = 3 := by have := beq_eq_false_iff_ne.1 c2; omega
    have dc3 : ¬ n = 7 := by have := beq_eq_false_iff_ne.1 c3; omega
    have dc4 : ¬ n = 9 := by have := beq_eq_false_iff_ne.1 c4; omega
    have dc5 : ¬ n = 1 := by have := beq_eq_false_iff_ne.1 c5; omega
    have dc6 : ¬ n = 5 := by have := beq_eq_false_iff_ne.1 c6; omega
    have ec7 : n = 12 := by have := eq_of_beq c7; omega
    subst ec7
    rfl
  refine W_test hA rfl (by decide) (by decide) rfl rfl (fun c8 a hA => ?_) (fun c8 a hA => ?_)
  · skip
    refine wp_seq ?_
    refine wp_region_list ?_
    refine W_val hA rfl 2 rfl (by decide) _ _ (R_asg hA rfl rfl _) (fun a hA => ?_)
    refine W_nil ?_
    refine then_nrm ?_
    show Code.wp Tryd.prog _ _ _ _
    refine wp_ret ?_
    refine blk_ret ?_
    refine then_ret ?_
    refine ret_tmp (j := 2) (by kernel_rfl) hA (by decide) rfl ?_
    refine ⟨congrArg (fun x : Int => Ending.returned (.int .i64 x)) ?_, HB⟩
    have dc1 : ¬ n = 11 := by have := beq_eq_false_iff_ne.1 c1; omega
    have dc2 : ¬ n = 3 := by have := beq_eq_false_iff_ne.1 c2; omega
    have dc3 : ¬ n = 7 := by have := beq_eq_false_iff_ne.1 c3; omega
    have dc4 : ¬ n = 9 := by have := beq_eq_false_iff_ne.1 c4; omega
    have dc5 : ¬ n = 1 := by have := beq_eq_false_iff_ne.1 c5; omega
    have dc6 : ¬ n = 5 := by have := beq_eq_false_iff_ne.1 c6; omega
    have dc7 : ¬ n = 12 := by have := beq_eq_false_iff_ne.1 c7; omega
    have ec8 : n = 10 := by have := eq_of_beq c8; omega
    subst ec8
    rfl
  refine W_test hA rfl (by decide) (by decide) rfl rfl (fun c9 a hA => ?_) (fun c9 a hA => ?_)
  · skip
    refine wp_seq ?_
    refine wp_region_list ?_
    refine W_val hA rfl 2 rfl (by decide) _ _ (R_asg hA rfl rfl _) (fun a hA => ?_)
    refine W_nil ?_
    refine then_nrm ?_
    show Code.wp Tryd.prog _ _ _ _
    refine wp_ret ?_
    refine blk_ret ?_
    refine then_ret ?_
    refine ret_tmp (j := 2) (by kernel_rfl) hA (by decide) rfl ?_
    refine ⟨congrArg (fun x : Int => Ending.returned (.int .i64 x)) ?_, HB⟩
    have dc1 : ¬ n = 11 := by have := beq_eq_false_iff_ne.1 c1; omega
    have dc2 : ¬ n = 3 := by have := beq_eq_false_iff_ne.1 c2; omega
    have dc3 : ¬ n = 7 := by have := beq_eq_false_iff_ne.1 c3; omega
    have dc4 : ¬ n = 9 := by have := beq_eq_false_iff_ne.1 c4; omega
    have dc5 : ¬ n = 1 := by have := beq_eq_false_iff_ne.1 c5; omega
    have dc6 : ¬ n = 5 := by have := beq_eq_false_iff_ne.1 c6; omega
    have dc7 : ¬ n = 12 := by have := beq_eq_false_iff_ne.1 c7; omega
    have dc8 : ¬ n = 10 := by have := beq_eq_false_iff_ne.1 c8; omega
    have ec9 : n = 2 := by have := eq_of_beq c9; omega
    subst ec9
    rfl
  refine W_test hA rfl (by decide) (by decide) rfl rfl (fun c10 a hA => ?_) (fun c10 a hA => ?_)
  · skip
    refine wp_seq ?_
    refine wp_region_list ?_
    refine W_val hA rfl 2 rfl (by decide) _ _ (R_asg hA rfl rfl _) (fun a hA => ?_)
    refine W_nil ?_
    refine then_nrm ?_
    show Code.wp Tryd.prog _ _ _ _
    refine wp_ret ?_
    refine blk_ret ?_
    refine then_ret ?_
    refine ret_tmp (j := 2) (by kernel_rfl) hA (by decide) rfl ?_
    refine ⟨congrArg (fun x : Int => Ending.returned (.int .i64 x)) ?_, HB⟩
    have dc1 : ¬ n = 11 := by have := beq_eq_false_iff_ne.1 c1; omega
    have dc2 : ¬ n = 3 := by have := beq_eq_false_iff_ne.1 c2; omega
    have dc3 : ¬ n = 7 := by have := beq_eq_false_iff_ne.1 c3; omega
    have dc4 : ¬ n = 9 := by have := beq_eq_false_iff_ne.1 c4; omega
    have dc5 : ¬ n = 1 := by have := beq_eq_false_iff_ne.1 c5; omega
    have dc6 : ¬ n = 5 := by have := beq_eq_false_iff_ne.1 c6; omega
    have dc7 : ¬ n = 12 := by have := beq_eq_false_iff_ne.1 c7; omega
    have dc8 : ¬ n = 10 := by have := beq_eq_false_iff_ne.1 c8; omega
    have dc9 : ¬ n = 2 := by have := beq_eq_false_iff_ne.1 c9; omega
    have ec10 : n = 6 := by have := eq_of_beq c10; omega
    subst ec10
    rfl
  refine wp_skip ?_
  refine blk_nrm ?_
  refine then_nrm ?_
  show Code.wp Tryd.prog _ _ _ _
  refine wp_seq ?_
  refine wp_region_list ?_
  refine W_val hA rfl 24 rfl (by decide) _ _ (R_mov hA rfl rfl _) (fun a hA => ?_)
  refine W_val hA rfl 25 rfl (by decide) _ _ (R_addI hA rfl rfl rfl _) (fun a hA => ?_)
  refine W_val hA rfl 2 rfl (by decide) _ _ (R_asg hA rfl rfl _) (fun a hA => ?_)
  refine W_nil ?_
  refine then_nrm ?_
  show Code.wp Tryd.prog _ _ _ _
  refine wp_ret ?_
  refine ret_tmp (j := 2) (by kernel_rfl) hA (by decide) rfl ?_
  refine ⟨congrArg (fun x : Int => Ending.returned (.int .i64 x)) ?_, HB⟩
  have dc1 : ¬ n = 11 := by have := beq_eq_false_iff_ne.1 c1; omega
  have dc2 : ¬ n = 3 := by have := beq_eq_false_iff_ne.1 c2; omega
  have dc3 : ¬ n = 7 := by have := beq_eq_false_iff_ne.1 c3; omega
  have dc4 : ¬ n = 9 := by have := beq_eq_false_iff_ne.1 c4; omega
  have dc5 : ¬ n = 1 := by have := beq_eq_false_iff_ne.1 c5; omega
  have dc6 : ¬ n = 5 := by have := beq_eq_false_iff_ne.1 c6; omega
  have dc7 : ¬ n = 12 := by have := beq_eq_false_iff_ne.1 c7; omega
  have dc8 : ¬ n = 10 := by have := beq_eq_false_iff_ne.1 c8; omega
  have dc9 : ¬ n = 2 := by have := beq_eq_false_iff_ne.1 c9; omega
  have dc10 : ¬ n = 6 := by have := beq_eq_false_iff_ne.1 c10; omega
  unfold rankZ
  simp only [dc1, dc2, dc3, dc4, dc5, dc6, dc7, dc8, dc9, dc10, if_false]
  rw [IntWalk.i64_in _ (by omega)]
  omega
end Go.Proofs.YthgjgloedlkaiaaDoor
