/- Layer 13: the walk of IrqAsked (written by gen_iqh.py by walkf.py). -/
import Derived.Test.YthgjgloedlkaiaaDoorIqH
namespace Go.Proofs.YthgjgloedlkaiaaDoor
open Go.RowKit
set_option linter.unusedVariables false
set_option maxRecDepth 100000

set_option maxHeartbeats 8000000 in
theorem irqAsked_none (t : HS) (l : LS) (w : World) (ok : HOk t) (lk : LOk l) (hTab : Tab w) (hn : nextZ t l = none) : Calls Tryd.prog 4 #[hartV t, linesV l] w fun e w' => e = .returned (.bool true) ∧ Below w.heap.size w w' := by
  have HB := Below.refl w.heap.size w
  go_enter Tryd.func4, Tryd.ntmps4
  refine begin_fr [(1, linesV l), (0, hartV t)] 77 ?_ (fun a hA => ?_)
  · exact FrA.add (FrA.add (FrA.nil (by rfl) (by rfl)) 0 _ (by rfl)) 1 _ (by rfl)
  refine wp_seq ?_
  refine wp_region_list ?_
  refine W_boxH hA rfl 2 rfl (by decide) rfl rfl (fun w1 bHH a hA hb HH gHH => ?_)
  replace gHH := Nat.le_trans HB.size gHH
  replace HB := HB.trans (hb.mono HB.size)
  clear hb
  refine W_boxL hA rfl 3 rfl (by decide) rfl rfl (fun w2 bLL a hA hb LL gLL => ?_)
  have nHHLL : bHH < bLL := by have := HH.lt; omega
  replace HH := HH.below hb
  replace gLL := Nat.le_trans HB.size gLL
  replace HB := HB.trans (hb.mono HB.size)
  clear hb
  refine W_val hA rfl 4 rfl (by decide) _ _ (R_asg hA rfl rfl _) (fun a hA => ?_)
  refine W_nil ?_
  refine then_nrm ?_
  show Code.wp Tryd.prog _ _ _ _
  refine wp_seq ?_
  refine wp_region_list ?_
  refine W_val hA rfl 8 rfl (by decide) _ _ (R_row hA rfl rfl HH Tryd.underlying25 (size_hart.trans (by rw [varr_size]))) (fun a hA => ?_)
  refine W_val hA rfl 9 rfl (by decide) _ _ (R_row hA rfl rfl LL Tryd.underlying27 (by kernel_rfl)) (fun a hA => ?_)
  refine W_callA hA (by decide) (fun _ _ => by kernel_rfl) (args2 hA rfl rfl) (next_of_none ok hn _ (by first | exact (hTab.below HB).below hS | exact hTab.below HB)) (fun w3 hw a hA => ?_)
  replace HB := HB.trans (hw.mono HB.size)
  replace HH := HH.below hw
  replace LL := LL.below hw
  clear hw
  refine W_allocTr hA rfl 5 rfl (by decide) rfl (fun w4 bT5 a hA hb T5 gT5 => ?_)
  have nHHT5 : bHH < bT5 := by have := HH.lt; omega
  replace HH := HH.below hb
  have nLLT5 : bLL < bT5 := by have := LL.lt; omega
  replace LL := LL.below hb
  replace gT5 := Nat.le_trans HB.size gT5
  replace HB := HB.trans (hb.mono HB.size)
  clear hb
  refine W_cpTr hA rfl rfl rfl rfl rfl T5 (fun w5 hT HN => ?_)
  replace HB := HB.trans (hT.bel _ gT5)
  replace HH := hT.hart HH (by omega)
  replace LL := hT.lines LL (by omega)
  replace T5 := HN
  clear hT HN
  refine W_nil ?_
  refine then_nrm ?_
  show Code.wp Tryd.prog _ _ _ _
  refine wp_seq ?_
  refine wp_region_list ?_
  refine W_val hA rfl 11 rfl (by decide) _ _ (R_row hA rfl rfl HH Tryd.underlying25 (size_hart.trans (by rw [varr_size]))) (fun a hA => ?_)
  refine W_val hA rfl 12 rfl (by decide) _ _ (R_row hA rfl rfl LL Tryd.underlying27 (by kernel_rfl)) (fun a hA => ?_)
  refine W_callA hA (by decide) (fun _ _ => by kernel_rfl) (args2 hA rfl rfl) (asks_any t ok l _) (fun w6 hw a hA => ?_)
  replace HB := HB.trans (hw.mono HB.size)
  replace HH := HH.below hw
  replace LL := LL.below hw
  replace T5 := T5.below hw
  clear hw
  refine W_val hA rfl 6 rfl (by decide) _ _ (R_asg hA rfl rfl _) (fun a hA => ?_)
  refine W_nil ?_
  refine then_nrm ?_
  show Code.wp Tryd.prog _ _ _ _
  refine wp_seq ?_
  refine wp_seq ?_
  refine wp_region_held_drew (S := fun wx => Below w6.heap.size w6 wx) (by kernel_rfl) ((Below.refl _ _).drew) (fun hS => ?_)
  refine takeF (i := 0) hA 14 rfl rfl (by decide) rfl (by kernel_rfl) (by kernel_rfl) (by kernel_rfl) (fun _ _ _ h => h) hS (fun wx hx => R_mov hA rfl rfl _) (fun a hA => ?_)
  refine takeF (i := 1) hA 15 rfl rfl (by decide) rfl (by kernel_rfl) (by kernel_rfl) (by kernel_rfl) (fun _ _ _ h => h) hS (fun wx hx => R_row hA rfl rfl (HH.below hx) Tryd.underlying25 (size_hart.trans (by rw [varr_size]))) (fun a hA => ?_)
  refine takeF (i := 2) hA 16 rfl rfl (by decide) rfl (by kernel_rfl) (by kernel_rfl) (by kernel_rfl) (fun _ _ _ h => h) hS (fun wx hx => R_row hA rfl rfl (LL.below hx) Tryd.underlying27 (by kernel_rfl)) (fun a hA => ?_)
  refine takeF (i := 4) hA 18 rfl rfl (by decide) rfl (by kernel_rfl) (by kernel_rfl) (by kernel_rfl) (fun _ _ _ h => h) hS (fun wx hx => R_fa hA rfl rfl (fun w => fa_hart _ 10 41 (by decide) rfl w) _) (fun a hA => ?_)
  refine takeF (i := 5) hA 19 rfl rfl (by decide) rfl (by kernel_rfl) (by kernel_rfl) (by kernel_rfl) (fun _ _ _ h => h) hS (fun wx hx => R_ld hA rfl rfl ag_u64 ((HH.below hx).u 41 (by decide) (by decide))) (fun a hA => ?_)
  refine wpAnyH_ready (rs := [3]) (by kernel_rfl) (by simp) (ready_call (i := 3) hA (by decide) rfl (fun _ _ => by kernel_rfl) (args2 hA rfl rfl) (pend_any t ok l _) (fun _ h => hS.trans (h.mono hS.size)) (fun w7 hw a hA => ?_) AllReadyH.nil)
  replace hS := hS.trans (hw.mono hS.size)
  clear hw
  refine takeF (i := 6) hA 20 rfl rfl (by decide) rfl (by kernel_rfl) (by kernel_rfl) (by kernel_rfl) (fun _ _ _ h => h) hS (fun wx hx => R_and hA rfl rfl rfl _) (fun a hA => ?_)
  refine takeF (i := 7) hA 21 rfl rfl (by decide) rfl (by kernel_rfl) (by kernel_rfl) (by kernel_rfl) (fun _ _ _ h => h) hS (fun wx hx => R_neqUT hA rfl rfl rfl false (by unfold asksZ; simp) _) (fun a hA => ?_)
  refine takeF (i := 8) hA 22 rfl rfl (by decide) rfl (by kernel_rfl) (by kernel_rfl) (by kernel_rfl) (fun _ _ _ h => h) hS (fun wx hx => R_mov hA rfl rfl _) (fun a hA => ?_)
  refine takeFg (i := 9) hA 23 rfl rfl (by decide) rfl rfl rfl (by kernel_rfl) (by kernel_rfl) (by kernel_rfl) (fun _ _ _ h => h) hS (fun wx hx => R_row hA rfl rfl (HH.below hx) Tryd.underlying25 (size_hart.trans (by rw [varr_size]))) (fun a hA => ?_)
  refine takeFg (i := 10) hA 24 rfl rfl (by decide) rfl rfl rfl (by kernel_rfl) (by kernel_rfl) (by kernel_rfl) (fun _ _ _ h => h) hS (fun wx hx => R_row hA rfl rfl (LL.below hx) Tryd.underlying27 (by kernel_rfl)) (fun a hA => ?_)
  refine takeFg (i := 12) hA 26 rfl rfl (by decide) rfl rfl rfl (by kernel_rfl) (by kernel_rfl) (by kernel_rfl) (fun _ _ _ h => h) hS (fun wx hx => R_mov hA rfl rfl _) (fun a hA => ?_)
  refine takeFg (i := 13) hA 27 rfl rfl (by decide) rfl rfl rfl (by kernel_rfl) (by kernel_rfl) (by kernel_rfl) (fun _ _ _ h => h) hS (fun wx hx => R_neqU hA rfl rfl rfl _) (fun a hA => ?_)
  refine wpAnyH_ready (rs := [11]) (by kernel_rfl) (by simp) (ready_gcall (i := 11) hA (by decide) rfl rfl rfl (fun _ _ => by kernel_rfl) (args2 hA rfl rfl) (irqWakes_any t ok l _) (fun _ h => hS.trans (h.mono hS.size)) (fun w8 hw a hA => ?_) AllReadyH.nil)
  replace hS := hS.trans (hw.mono hS.size)
  clear hw
  refine takeFg (i := 14) hA 28 rfl rfl (by decide) rfl rfl rfl (by kernel_rfl) (by kernel_rfl) (by kernel_rfl) (fun _ _ _ h => h) hS (fun wx hx => R_neqBT hA rfl rfl rfl false (by simp) _) (fun a hA => ?_)
  refine takeF (i := 15) hA 29 rfl rfl (by decide) rfl (by kernel_rfl) (by kernel_rfl) (by kernel_rfl) (fun _ _ _ h => h) hS (fun wx hx => R_pick hA rfl rfl rfl _) (fun a hA => ?_)
  refine wpAnyH_done (by kernel_rfl) ?_ _
  replace HH := HH.below hS
  replace LL := LL.below hS
  replace T5 := T5.below hS
  replace HB := HB.trans (hS.mono HB.size)
  clear hS
  refine then_nrm ?_
  show Code.wp Tryd.prog _ _ _ _
  refine wp_cond_false (hA.ev (x := .tmp 29) rfl) ?_
  refine wp_skip ?_
  refine then_nrm ?_
  show Code.wp Tryd.prog _ _ _ _
  refine wp_seq ?_
  refine wp_seq ?_
  refine wp_region_list ?_
  refine W_val hA rfl 30 rfl (by decide) _ _ (R_fa hA rfl rfl (fun w => fa_tr0 _ w) _) (fun a hA => ?_)
  refine W_val hA rfl 31 rfl (by decide) _ _ (R_ld hA rfl rfl ag_bool (TrB.c0 T5)) (fun a hA => ?_)
  refine W_val hA rfl 32 rfl (by decide) _ _ (R_not hA rfl rfl _) (fun a hA => ?_)
  refine W_nil ?_
  refine then_nrm ?_
  show Code.wp Tryd.prog _ _ _ _
  refine wp_cond_true (hA.ev (x := .tmp 32) rfl) ?_
  refine wp_seq ?_
  refine wp_region_list ?_
  refine W_val hA rfl 33 rfl (by decide) _ _ (R_row hA rfl rfl T5 Tryd.underlying30 (size_tr _ _)) (fun a hA => ?_)
  refine W_val hA rfl 34 rfl (by decide) _ _ (R_build (ps := []) hA rfl [] rfl bld_tr0 _) (fun a hA => ?_)
  refine W_val hA rfl 35 rfl (by decide) _ _ (R_eqlTT hA rfl rfl rfl true (by decide) _) (fun a hA => ?_)
  refine W_val hA rfl 36 rfl (by decide) _ _ (R_mov hA rfl rfl _) (fun a hA => ?_)
  refine W_gcallB hA rfl rfl (by decide) (fun _ _ => by kernel_rfl) (args0 ) (wakes_any _ (by first | exact (hTab.below HB).below hS | exact hTab.below HB)) (fun w9 hw a hA => ?_)
  replace HB := HB.trans (hw.mono HB.size)
  replace HH := HH.below hw
  replace LL := LL.below hw
  replace T5 := T5.below hw
  clear hw
  refine W_val hA rfl 38 rfl (by decide) _ _ (R_pick hA rfl rfl rfl _) (fun a hA => ?_)
  refine W_val hA rfl 4 rfl (by decide) _ _ (R_asg hA rfl rfl _) (fun a hA => ?_)
  refine W_nil ?_
  refine then_nrm ?_
  show Code.wp Tryd.prog _ _ _ _
  refine wp_ret ?_
  refine then_ret ?_
  exact ret_tmp (j := 4) (by kernel_rfl) hA (by decide) rfl ⟨rfl, HB⟩
set_option maxHeartbeats 8000000 in
theorem irqAsked_some (t : HS) (l : LS) (w : World) (ok : HOk t) (lk : LOk l) (hTab : Tab w) {n : Nat} (hn : nextZ t l = some n) : Calls Tryd.prog 4 #[hartV t, linesV l] w fun e w' => e = .returned (.bool true) ∧ Below w.heap.size w w' := by
  have hn64 : n < 64 := (nextZ_some hn).1
  have ha := (nextZ_some hn).2.1
  have HB := Below.refl w.heap.size w
  go_enter Tryd.func4, Tryd.ntmps4
  refine begin_fr [(1, linesV l), (0, hartV t)] 77 ?_ (fun a hA => ?_)
  · exact FrA.add (FrA.add (FrA.nil (by rfl) (by rfl)) 0 _ (by rfl)) 1 _ (by rfl)
  refine wp_seq ?_
  refine wp_region_list ?_
  refine W_boxH hA rfl 2 rfl (by decide) rfl rfl (fun w1 bHH a hA hb HH gHH => ?_)
  replace gHH := Nat.le_trans HB.size gHH
  replace HB := HB.trans (hb.mono HB.size)
  clear hb
  refine W_boxL hA rfl 3 rfl (by decide) rfl rfl (fun w2 bLL a hA hb LL gLL => ?_)
  have nHHLL : bHH < bLL := by have := HH.lt; omega
  replace HH := HH.below hb
  replace gLL := Nat.le_trans HB.size gLL
  replace HB := HB.trans (hb.mono HB.size)
  clear hb
  refine W_val hA rfl 4 rfl (by decide) _ _ (R_asg hA rfl rfl _) (fun a hA => ?_)
  refine W_nil ?_
  refine then_nrm ?_
  show Code.wp Tryd.prog _ _ _ _
  refine wp_seq ?_
  refine wp_region_list ?_
  refine W_val hA rfl 8 rfl (by decide) _ _ (R_row hA rfl rfl HH Tryd.underlying25 (size_hart.trans (by rw [varr_size]))) (fun a hA => ?_)
  refine W_val hA rfl 9 rfl (by decide) _ _ (R_row hA rfl rfl LL Tryd.underlying27 (by kernel_rfl)) (fun a hA => ?_)
  refine W_callA hA (by decide) (fun _ _ => by kernel_rfl) (args2 hA rfl rfl) (next_of_some ok hn _ (by first | exact (hTab.below HB).below hS | exact hTab.below HB)) (fun w3 hw a hA => ?_)
  replace HB := HB.trans (hw.mono HB.size)
  replace HH := HH.below hw
  replace LL := LL.below hw
  clear hw
  refine W_allocTr hA rfl 5 rfl (by decide) rfl (fun w4 bT5 a hA hb T5 gT5 => ?_)
  have nHHT5 : bHH < bT5 := by have := HH.lt; omega
  replace HH := HH.below hb
  have nLLT5 : bLL < bT5 := by have := LL.lt; omega
  replace LL := LL.below hb
  replace gT5 := Nat.le_trans HB.size gT5
  replace HB := HB.trans (hb.mono HB.size)
  clear hb
  refine W_cpTr hA rfl rfl rfl rfl rfl T5 (fun w5 hT HN => ?_)
  replace HB := HB.trans (hT.bel _ gT5)
  replace HH := hT.hart HH (by omega)
  replace LL := hT.lines LL (by omega)
  replace T5 := HN
  clear hT HN
  refine W_nil ?_
  refine then_nrm ?_
  show Code.wp Tryd.prog _ _ _ _
  refine wp_seq ?_
  refine wp_region_list ?_
  refine W_val hA rfl 11 rfl (by decide) _ _ (R_row hA rfl rfl HH Tryd.underlying25 (size_hart.trans (by rw [varr_size]))) (fun a hA => ?_)
  refine W_val hA rfl 12 rfl (by decide) _ _ (R_row hA rfl rfl LL Tryd.underlying27 (by kernel_rfl)) (fun a hA => ?_)
  refine W_callA hA (by decide) (fun _ _ => by kernel_rfl) (args2 hA rfl rfl) (asks_any t ok l _) (fun w6 hw a hA => ?_)
  replace HB := HB.trans (hw.mono HB.size)
  replace HH := HH.below hw
  replace LL := LL.below hw
  replace T5 := T5.below hw
  clear hw
  refine W_val hA rfl 6 rfl (by decide) _ _ (R_asg hA rfl rfl _) (fun a hA => ?_)
  refine W_nil ?_
  refine then_nrm ?_
  show Code.wp Tryd.prog _ _ _ _
  refine wp_seq ?_
  refine wp_seq ?_
  refine wp_region_held_drew (S := fun wx => Below w6.heap.size w6 wx) (by kernel_rfl) ((Below.refl _ _).drew) (fun hS => ?_)
  refine takeF (i := 0) hA 14 rfl rfl (by decide) rfl (by kernel_rfl) (by kernel_rfl) (by kernel_rfl) (fun _ _ _ h => h) hS (fun wx hx => R_mov hA rfl rfl _) (fun a hA => ?_)
  refine takeF (i := 1) hA 15 rfl rfl (by decide) rfl (by kernel_rfl) (by kernel_rfl) (by kernel_rfl) (fun _ _ _ h => h) hS (fun wx hx => R_row hA rfl rfl (HH.below hx) Tryd.underlying25 (size_hart.trans (by rw [varr_size]))) (fun a hA => ?_)
  refine takeF (i := 2) hA 16 rfl rfl (by decide) rfl (by kernel_rfl) (by kernel_rfl) (by kernel_rfl) (fun _ _ _ h => h) hS (fun wx hx => R_row hA rfl rfl (LL.below hx) Tryd.underlying27 (by kernel_rfl)) (fun a hA => ?_)
  refine takeF (i := 4) hA 18 rfl rfl (by decide) rfl (by kernel_rfl) (by kernel_rfl) (by kernel_rfl) (fun _ _ _ h => h) hS (fun wx hx => R_fa hA rfl rfl (fun w => fa_hart _ 10 41 (by decide) rfl w) _) (fun a hA => ?_)
  refine takeF (i := 5) hA 19 rfl rfl (by decide) rfl (by kernel_rfl) (by kernel_rfl) (by kernel_rfl) (fun _ _ _ h => h) hS (fun wx hx => R_ld hA rfl rfl ag_u64 ((HH.below hx).u 41 (by decide) (by decide))) (fun a hA => ?_)
  refine wpAnyH_ready (rs := [3]) (by kernel_rfl) (by simp) (ready_call (i := 3) hA (by decide) rfl (fun _ _ => by kernel_rfl) (args2 hA rfl rfl) (pend_any t ok l _) (fun _ h => hS.trans (h.mono hS.size)) (fun w7 hw a hA => ?_) AllReadyH.nil)
  replace hS := hS.trans (hw.mono hS.size)
  clear hw
  refine takeF (i := 6) hA 20 rfl rfl (by decide) rfl (by kernel_rfl) (by kernel_rfl) (by kernel_rfl) (fun _ _ _ h => h) hS (fun wx hx => R_and hA rfl rfl rfl _) (fun a hA => ?_)
  refine takeF (i := 7) hA 21 rfl rfl (by decide) rfl (by kernel_rfl) (by kernel_rfl) (by kernel_rfl) (fun _ _ _ h => h) hS (fun wx hx => R_neqUT hA rfl rfl rfl false (by unfold asksZ; simp) _) (fun a hA => ?_)
  refine takeF (i := 8) hA 22 rfl rfl (by decide) rfl (by kernel_rfl) (by kernel_rfl) (by kernel_rfl) (fun _ _ _ h => h) hS (fun wx hx => R_mov hA rfl rfl _) (fun a hA => ?_)
  refine takeFg (i := 9) hA 23 rfl rfl (by decide) rfl rfl rfl (by kernel_rfl) (by kernel_rfl) (by kernel_rfl) (fun _ _ _ h => h) hS (fun wx hx => R_row hA rfl rfl (HH.below hx) Tryd.underlying25 (size_hart.trans (by rw [varr_size]))) (fun a hA => ?_)
  refine takeFg (i := 10) hA 24 rfl rfl (by decide) rfl rfl rfl (by kernel_rfl) (by kernel_rfl) (by kernel_rfl) (fun _ _ _ h => h) hS (fun wx hx => R_row hA rfl rfl (LL.below hx) Tryd.underlying27 (by kernel_rfl)) (fun a hA => ?_)
  refine takeFg (i := 12) hA 26 rfl rfl (by decide) rfl rfl rfl (by kernel_rfl) (by kernel_rfl) (by kernel_rfl) (fun _ _ _ h => h) hS (fun wx hx => R_mov hA rfl rfl _) (fun a hA => ?_)
  refine takeFg (i := 13) hA 27 rfl rfl (by decide) rfl rfl rfl (by kernel_rfl) (by kernel_rfl) (by kernel_rfl) (fun _ _ _ h => h) hS (fun wx hx => R_neqU hA rfl rfl rfl _) (fun a hA => ?_)
  refine wpAnyH_ready (rs := [11]) (by kernel_rfl) (by simp) (ready_gcall (i := 11) hA (by decide) rfl rfl rfl (fun _ _ => by kernel_rfl) (args2 hA rfl rfl) (irqWakes_any t ok l _) (fun _ h => hS.trans (h.mono hS.size)) (fun w8 hw a hA => ?_) AllReadyH.nil)
  replace hS := hS.trans (hw.mono hS.size)
  clear hw
  refine takeFg (i := 14) hA 28 rfl rfl (by decide) rfl rfl rfl (by kernel_rfl) (by kernel_rfl) (by kernel_rfl) (fun _ _ _ h => h) hS (fun wx hx => R_neqBT hA rfl rfl rfl false (by simp) _) (fun a hA => ?_)
  refine takeF (i := 15) hA 29 rfl rfl (by decide) rfl (by kernel_rfl) (by kernel_rfl) (by kernel_rfl) (fun _ _ _ h => h) hS (fun wx hx => R_pick hA rfl rfl rfl _) (fun a hA => ?_)
  refine wpAnyH_done (by kernel_rfl) ?_ _
  replace HH := HH.below hS
  replace LL := LL.below hS
  replace T5 := T5.below hS
  replace HB := HB.trans (hS.mono HB.size)
  clear hS
  refine then_nrm ?_
  show Code.wp Tryd.prog _ _ _ _
  refine wp_cond_false (hA.ev (x := .tmp 29) rfl) ?_
  refine wp_skip ?_
  refine then_nrm ?_
  show Code.wp Tryd.prog _ _ _ _
  refine wp_seq ?_
  refine wp_seq ?_
  refine wp_region_list ?_
  refine W_val hA rfl 30 rfl (by decide) _ _ (R_fa hA rfl rfl (fun w => fa_tr0 _ w) _) (fun a hA => ?_)
  refine W_val hA rfl 31 rfl (by decide) _ _ (R_ld hA rfl rfl ag_bool (TrB.c0 T5)) (fun a hA => ?_)
  refine W_val hA rfl 32 rfl (by decide) _ _ (R_not hA rfl rfl _) (fun a hA => ?_)
  refine W_nil ?_
  refine then_nrm ?_
  show Code.wp Tryd.prog _ _ _ _
  refine wp_cond_false (hA.ev (x := .tmp 32) rfl) ?_
  refine wp_skip ?_
  refine then_nrm ?_
  show Code.wp Tryd.prog _ _ _ _
  refine wp_seq ?_
  refine wp_region_list ?_
  refine W_val hA rfl 39 rfl (by decide) _ _ (R_fa hA rfl rfl (fun w => fa_tr1 _ w) _) (fun a hA => ?_)
  refine W_val hA rfl 40 rfl (by decide) _ _ (R_ld hA rfl rfl ag_u64 (TrB.c1 T5)) (fun a hA => ?_)
  refine W_val hA rfl 41 rfl (by decide) _ _ (R_andN hA rfl rfl rfl (cause_num n hn64) _) (fun a hA => ?_)
  refine W_val hA rfl 7 rfl (by decide) _ _ (R_asg hA rfl rfl _) (fun a hA => ?_)
  refine W_nil ?_
  refine then_nrm ?_
  show Code.wp Tryd.prog _ _ _ _
  refine wp_seq ?_
  refine wp_seq ?_
  refine wp_region_list ?_
  refine W_val hA rfl 42 rfl (by decide) _ _ (R_row hA rfl rfl T5 Tryd.underlying30 (size_tr _ _)) (fun a hA => ?_)
  refine W_val hA rfl 43 rfl (by decide) _ _ (R_mov hA rfl rfl _) (fun a hA => ?_)
  refine W_val hA rfl 44 rfl (by decide) _ _ (R_orN hA rfl rfl rfl (or_cause n hn64) _) (fun a hA => ?_)
  refine W_val hA rfl 45 rfl (by decide) _ _ (R_build (ps := [(0, .const (.bool true)), (1, .tmp 44)]) hA rfl [(0, .bool true), (1, .int .u64 _)] rfl (bld_tr1 _) _) (fun a hA => ?_)
  refine W_val hA rfl 46 rfl (by decide) _ _ (R_neqTT hA rfl rfl rfl false (by simp) _) (fun a hA => ?_)
  refine W_val hA rfl 47 rfl (by decide) _ _ (R_mov hA rfl rfl _) (fun a hA => ?_)
  refine W_gval hA rfl rfl rfl 48 rfl (by decide) _ _ (R_mov hA rfl rfl _) (fun a hA => ?_)
  refine W_gval hA rfl rfl rfl 49 rfl (by decide) _ _ (R_gtrN hA rfl rfl rfl false (by simp; omega) _) (fun a hA => ?_)
  refine W_val hA rfl 50 rfl (by decide) _ _ (R_pick hA rfl rfl rfl _) (fun a hA => ?_)
  refine W_val hA rfl 51 rfl (by decide) _ _ (R_mov hA rfl rfl _) (fun a hA => ?_)
  refine W_gval hA rfl rfl rfl 52 rfl (by decide) _ _ (R_mov hA rfl rfl _) (fun a hA => ?_)
  refine W_gval hA rfl rfl rfl 53 rfl (by decide) _ _ (R_mov hA rfl rfl _) (fun a hA => ?_)
  refine W_gval hA rfl rfl rfl 54 rfl (by decide) _ _ (R_shrX hA rfl rfl (asks_in t l).1 hn64 rfl _) (fun a hA => ?_)
  refine W_gval hA rfl rfl rfl 55 rfl (by decide) _ _ (R_and hA rfl rfl rfl _) (fun a hA => ?_)
  refine W_gval hA rfl rfl rfl 56 rfl (by decide) _ _ (R_eqlUT hA rfl rfl rfl false (by rw [has_bit0 (asks_in t l), ha]; rfl) _) (fun a hA => ?_)
  refine W_val hA rfl 57 rfl (by decide) _ _ (R_pick hA rfl rfl rfl _) (fun a hA => ?_)
  refine W_nil ?_
  refine then_nrm ?_
  show Code.wp Tryd.prog _ _ _ _
  refine wp_cond_false (hA.ev (x := .tmp 57) rfl) ?_
  refine wp_skip ?_
  refine then_nrm ?_
  show Code.wp Tryd.prog _ _ _ _
  refine wp_seq ?_
  refine wp_seq ?_
  refine wp_region_list ?_
  refine W_val hA rfl 58 rfl (by decide) _ _ (R_fa hA rfl rfl (fun w => fa_hart _ 2 33 (by decide) rfl w) _) (fun a hA => ?_)
  refine W_val hA rfl 59 rfl (by decide) _ _ (R_ld hA rfl rfl ag_u8 HH.p) (fun a hA => ?_)
  refine W_val hA rfl 60 rfl (by decide) _ _ (R_eqlB hA rfl rfl rfl _) (fun a hA => ?_)
  refine W_val hA rfl 61 rfl (by decide) _ _ (R_mov hA rfl rfl _) (fun a hA => ?_)
  refine W_split hA 61 rfl (fun c1 hA => ?_) (fun c1 hA => ?_)
  · skip
    refine W_gval hA rfl rfl rfl 62 rfl (by decide) _ _ (R_fa hA rfl rfl (fun w => fa_hart _ 7 38 (by decide) rfl w) _) (fun a hA => ?_)
    refine W_gval hA rfl rfl rfl 63 rfl (by decide) _ _ (R_ld hA rfl rfl ag_u64 (HH.u 38 (by decide) (by decide))) (fun a hA => ?_)
    refine W_gval hA rfl rfl rfl 64 rfl (by decide) _ _ (R_shrN hA rfl 3 rfl (ok.n _).1 (by decide) rfl _) (fun a hA => ?_)
    refine W_gval hA rfl rfl rfl 65 rfl (by decide) _ _ (R_and hA rfl rfl rfl _) (fun a hA => ?_)
    refine W_gval hA rfl rfl rfl 66 rfl (by decide) _ _ (R_eqlUT hA rfl rfl rfl false ((has_bit0 (ok.n 38) 3).trans (by rw [(next_machine hn (eq_of_beq c1)).1]; rfl)) _) (fun a hA => ?_)
    refine W_gval hA rfl rfl rfl 67 rfl (by decide) _ _ (R_mov hA rfl rfl _) (fun a hA => ?_)
    refine W_gval hA rfl rfl rfl 68 rfl (by decide) _ _ (R_fa hA rfl rfl (fun w => fa_hart _ 9 40 (by decide) rfl w) _) (fun a hA => ?_)
    refine W_gval hA rfl rfl rfl 69 rfl (by decide) _ _ (R_ld hA rfl rfl ag_u64 (HH.u 40 (by decide) (by decide))) (fun a hA => ?_)
    refine W_gval hA rfl rfl rfl 70 rfl (by decide) _ _ (R_mov hA rfl rfl _) (fun a hA => ?_)
    refine W_gval hA rfl rfl rfl 71 rfl (by decide) _ _ (R_shrX hA rfl rfl (ok.n _).1 hn64 rfl _) (fun a hA => ?_)
    refine W_gval hA rfl rfl rfl 72 rfl (by decide) _ _ (R_and hA rfl rfl rfl _) (fun a hA => ?_)
    refine W_gval hA rfl rfl rfl 73 rfl (by decide) _ _ (R_eqlUT hA rfl rfl rfl false ((has_bit (ok.n 40) n).trans (next_machine hn (eq_of_beq c1)).2) _) (fun a hA => ?_)
    refine W_gval hA rfl rfl rfl 74 rfl (by decide) _ _ (R_pick hA rfl rfl rfl _) (fun a hA => ?_)
    refine W_val hA rfl 75 rfl (by decide) _ _ (R_pick hA rfl rfl rfl _) (fun a hA => ?_)
    refine W_nil ?_
    refine then_nrm ?_
    show Code.wp Tryd.prog _ _ _ _
    refine wp_cond_false (hA.ev (x := .tmp 75) rfl) ?_
    refine wp_skip ?_
    refine then_nrm ?_
    show Code.wp Tryd.prog _ _ _ _
    refine wp_seq ?_
    refine wp_region_list ?_
    refine W_callA hA (by decide) (fun _ _ => by kernel_rfl) (args0 ) (wakes_any _ (by first | exact (hTab.below HB).below hS | exact hTab.below HB)) (fun w9 hw a hA => ?_)
    replace HB := HB.trans (hw.mono HB.size)
    replace HH := HH.below hw
    replace LL := LL.below hw
    replace T5 := T5.below hw
    clear hw
    refine W_val hA rfl 4 rfl (by decide) _ _ (R_asg hA rfl rfl _) (fun a hA => ?_)
    refine W_nil ?_
    refine then_nrm ?_
    show Code.wp Tryd.prog _ _ _ _
    refine wp_ret ?_
    exact ret_tmp (j := 4) (by kernel_rfl) hA (by decide) rfl ⟨rfl, HB⟩
  refine W_gskip hA rfl rfl rfl 62 rfl (by decide) (fun a hA => ?_)
  refine W_gskip hA rfl rfl rfl 63 rfl (by decide) (fun a hA => ?_)
  refine W_gskip hA rfl rfl rfl 64 rfl (by decide) (fun a hA => ?_)
  refine W_gskip hA rfl rfl rfl 65 rfl (by decide) (fun a hA => ?_)
  refine W_gskip hA rfl rfl rfl 66 rfl (by decide) (fun a hA => ?_)
  refine W_gskip hA rfl rfl rfl 67 rfl (by decide) (fun a hA => ?_)
  refine W_gskipU hA rfl rfl rfl 68 rfl (by decide) (fun a hA => ?_)
  refine W_gskipU hA rfl rfl rfl 69 rfl (by decide) (fun a hA => ?_)
  refine W_gskipU hA rfl rfl rfl 70 rfl (by decide) (fun a hA => ?_)
  refine W_gskipU hA rfl rfl rfl 71 rfl (by decide) (fun a hA => ?_)
  refine W_gskipU hA rfl rfl rfl 72 rfl (by decide) (fun a hA => ?_)
  refine W_gskipU hA rfl rfl rfl 73 rfl (by decide) (fun a hA => ?_)
  refine W_gskip hA rfl rfl rfl 74 rfl (by decide) (fun a hA => ?_)
  refine W_val hA rfl 75 rfl (by decide) _ _ (R_pick hA rfl rfl rfl _) (fun a hA => ?_)
  refine W_nil ?_
  refine then_nrm ?_
  show Code.wp Tryd.prog _ _ _ _
  refine wp_cond_false (hA.ev (x := .tmp 75) rfl) ?_
  refine wp_skip ?_
  refine then_nrm ?_
  show Code.wp Tryd.prog _ _ _ _
  refine wp_seq ?_
  refine wp_region_list ?_
  refine W_callA hA (by decide) (fun _ _ => by kernel_rfl) (args0 ) (wakes_any _ (by first | exact (hTab.below HB).below hS | exact hTab.below HB)) (fun w10 hw a hA => ?_)
  replace HB := HB.trans (hw.mono HB.size)
  replace HH := HH.below hw
  replace LL := LL.below hw
  replace T5 := T5.below hw
  clear hw
  refine W_val hA rfl 4 rfl (by decide) _ _ (R_asg hA rfl rfl _) (fun a hA => ?_)
  refine W_nil ?_
  refine then_nrm ?_
  show Code.wp Tryd.prog _ _ _ _
  refine wp_ret ?_
  exact ret_tmp (j := 4) (by kernel_rfl) hA (by decide) rfl ⟨rfl, HB⟩
theorem irqAsked_walk (t : HS) (l : LS) (w : World) (ok : HOk t) (lk : LOk l) (hTab : Tab w) : Calls Tryd.prog 4 #[hartV t, linesV l] w fun e w' => e = .returned (.bool true) ∧ Below w.heap.size w w' := by
  cases hn : nextZ t l with
  | none => exact irqAsked_none t l w ok lk hTab hn
  | some n => exact irqAsked_some t l w ok lk hTab hn
end Go.Proofs.YthgjgloedlkaiaaDoor
