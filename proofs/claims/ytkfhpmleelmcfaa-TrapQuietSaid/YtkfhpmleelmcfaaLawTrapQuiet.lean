/- Layer 14: the walk of TrapQuiet (written by gen_trf.py by walkf.py). -/
import Derived.Test.YtkfhpmleelmcfaaTrF
namespace Go.Proofs.Ytkfhpmleelmcfaa
open Go.RowKit
set_option linter.unusedVariables false
set_option maxRecDepth 100000

set_option maxHeartbeats 8000000 in
theorem trapQuiet_0 (t : HS) (s : TS) (k : HS) (w : World) (ok : HOk t) (sk : TOk s) (okk : HOk k) (hk : enterZ t s.on = k) (z : toZ t s.on.c = 0) (hq : bitZ (k.n 38) 3 = false) : Calls Try.prog 7 #[hartV t, tsV s] w fun e w' => e = .returned (.bool true) ∧ Below w.heap.size w w' := by
  have HB := Below.refl w.heap.size w
  go_enter Try.func7, Try.ntmps7
  refine begin_fr [(1, tsV s), (0, hartV t)] 67 ?_ (fun a hA => ?_)
  · exact FrA.add (FrA.add (FrA.nil (by rfl) (by rfl)) 0 _ (by rfl)) 1 _ (by rfl)
  refine wp_seq ?_
  refine wp_region_list ?_
  refine W_boxH hA rfl 2 rfl (by decide) rfl rfl (fun w1 bHH a hA hb HH gHH => ?_)
  replace gHH := Nat.le_trans HB.size gHH
  replace HB := HB.trans (hb.mono HB.size)
  clear hb
  refine W_boxT hA rfl 3 rfl (by decide) rfl rfl (fun w2 bTT a hA hb TT gTT => ?_)
  have nHHTT : bHH < bTT := by have := HH.lt; omega
  replace gTT := Nat.le_trans HB.size gTT
  replace HB := HB.trans (hb.mono HB.size)
  replace HH := HH.below hb
  clear hb
  refine W_val hA rfl 4 rfl (by decide) _ _ (R_asg hA rfl rfl _) (fun a hA => ?_)
  refine W_nil ?_
  refine then_nrm ?_
  show Code.wp Try.prog _ _ _ _
  refine wp_seq ?_
  refine wp_region_list ?_
  refine W_val hA rfl 6 rfl (by decide) _ _ (R_fa hA rfl rfl (fun w => fa_ts _ 0 (by decide) w) _) (fun a hA => ?_)
  refine W_stT0 hA rfl rfl rfl rfl TT (fun w3 hT HN => ?_)
  replace HB := HB.trans (hT.bel _ gTT)
  replace HH := hT.hart HH (by omega)
  replace TT := HN
  clear hT HN
  refine W_nil ?_
  refine then_nrm ?_
  show Code.wp Try.prog _ _ _ _
  refine wp_seq ?_
  refine wp_region_list ?_
  refine W_val hA rfl 7 rfl (by decide) _ _ (R_row hA rfl rfl HH Try.underlying25 (size_hart.trans (by rw [varr_size]))) (fun a hA => ?_)
  refine W_val hA rfl 8 rfl (by decide) _ _ (R_row hA rfl rfl TT Try.underlying27 (size_ts _)) (fun a hA => ?_)
  refine W_callA hA (by decide) (fun _ _ => by kernel_rfl) (args2 hA rfl rfl) (enter_to ok sk.on hk _) (fun w4 hw a hA => ?_)
  replace HB := HB.trans (hw.mono HB.size)
  replace HH := HH.below hw
  replace TT := TT.below hw
  clear hw
  refine W_allocH hA rfl 5 rfl (by decide) rfl (fun w5 bA5 a hA hb A5 gA5 => ?_)
  have nHHA5 : bHH < bA5 := by have := HH.lt; omega
  have nTTA5 : bTT < bA5 := by have := TT.lt; omega
  replace gA5 := Nat.le_trans HB.size gA5
  replace HB := HB.trans (hb.mono HB.size)
  replace HH := HH.below hb
  replace TT := TT.below hb
  clear hb
  refine W_cpH hA rfl rfl rfl rfl rfl A5 (fun w6 hT HN => ?_)
  replace HB := HB.trans (hT.bel _ gA5)
  replace HH := hT.hart HH (by omega)
  replace TT := hT.ts TT (by omega)
  replace A5 := HN
  clear hT HN
  refine W_nil ?_
  refine then_nrm ?_
  show Code.wp Try.prog _ _ _ _
  refine wp_seq ?_
  refine wp_seq ?_
  refine wp_region_list ?_
  refine W_val hA rfl 10 rfl (by decide) _ _ (R_row hA rfl rfl HH Try.underlying25 (size_hart.trans (by rw [varr_size]))) (fun a hA => ?_)
  refine W_val hA rfl 11 rfl (by decide) _ _ (R_fa hA rfl rfl (fun w => fa_ts _ 1 (by decide) w) _) (fun a hA => ?_)
  refine W_val hA rfl 12 rfl (by decide) _ _ (R_ld (v := .int .u64 (s.on.c)) hA rfl rfl ag_u64 (TsB.cell TT 1 _ rfl)) (fun a hA => ?_)
  refine W_callA hA (by decide) (fun _ _ => by kernel_rfl) (args2 hA rfl rfl) (to_to (k := 0) ok sk.on.c z _) (fun w7 hw a hA => ?_)
  replace HB := HB.trans (hw.mono HB.size)
  replace HH := HH.below hw
  replace TT := TT.below hw
  replace A5 := A5.below hw
  clear hw
  refine W_nil ?_
  refine then_nrm ?_
  show Code.wp Try.prog _ _ _ _
  refine wp_block ?_
  refine wp_seq ?_
  refine wp_region_list ?_
  refine W_val hA rfl 15 rfl (by decide) _ _ (R_eqlIT hA rfl rfl rfl true (by decide) _) (fun a hA => ?_)
  refine W_val hA rfl 14 rfl (by decide) _ _ (R_asg hA rfl rfl _) (fun a hA => ?_)
  refine W_nil ?_
  refine then_nrm ?_
  show Code.wp Try.prog _ _ _ _
  refine wp_cond_true (hA.ev (x := .tmp 14) rfl) ?_
  refine wp_seq ?_
  refine wp_region_list ?_
  refine W_val hA rfl 16 rfl (by decide) _ _ (R_fa hA rfl rfl (fun w => fa_hart _ 7 38 (by decide) rfl w) _) (fun a hA => ?_)
  refine W_val hA rfl 17 rfl (by decide) _ _ (R_ld (v := .int .u64 (k.n 38)) hA rfl rfl ag_u64 (A5.u 38 (by decide) (by decide))) (fun a hA => ?_)
  refine W_val hA rfl 18 rfl (by decide) _ _ (R_shrN hA rfl 3 rfl (okk.n 38).1 (by decide) rfl _) (fun a hA => ?_)
  refine W_val hA rfl 19 rfl (by decide) _ _ (R_and hA rfl rfl rfl _) (fun a hA => ?_)
  refine W_val hA rfl 20 rfl (by decide) _ _ (R_eqlUT hA rfl rfl rfl true (and1_zero (okk.n 38) 3 hq) _) (fun a hA => ?_)
  refine W_val hA rfl 21 rfl (by decide) _ _ (R_mov hA rfl rfl _) (fun a hA => ?_)
  refine W_gcallB hA rfl rfl (by decide) (fun _ _ => by kernel_rfl) (args0 ) (wakes_any _) (fun w8 hw a hA => ?_)
  replace HB := HB.trans (hw.mono HB.size)
  replace HH := HH.below hw
  replace TT := TT.below hw
  replace A5 := A5.below hw
  clear hw
  refine W_val hA rfl 23 rfl (by decide) _ _ (R_pick hA rfl rfl rfl _) (fun a hA => ?_)
  refine W_val hA rfl 4 rfl (by decide) _ _ (R_asg hA rfl rfl _) (fun a hA => ?_)
  refine W_nil ?_
  refine then_nrm ?_
  show Code.wp Try.prog _ _ _ _
  refine wp_ret ?_
  refine blk_ret ?_
  refine then_ret ?_
  exact ret_tmp (j := 4) (by kernel_rfl) hA (by decide) rfl ⟨rfl, HB⟩
set_option maxHeartbeats 8000000 in
theorem trapQuiet_1 (t : HS) (s : TS) (k : HS) (w : World) (ok : HOk t) (sk : TOk s) (okk : HOk k) (hk : enterZ t s.on = k) (z : toZ t s.on.c = 1) (hq : bitZ (k.n 38) 1 = false) (hr : bitZ (k.n 38) 3 = bitZ (t.n 38) 3) : Calls Try.prog 7 #[hartV t, tsV s] w fun e w' => e = .returned (.bool true) ∧ Below w.heap.size w w' := by
  have HB := Below.refl w.heap.size w
  go_enter Try.func7, Try.ntmps7
  refine begin_fr [(1, tsV s), (0, hartV t)] 67 ?_ (fun a hA => ?_)
  · exact FrA.add (FrA.add (FrA.nil (by rfl) (by rfl)) 0 _ (by rfl)) 1 _ (by rfl)
  refine wp_seq ?_
  refine wp_region_list ?_
  refine W_boxH hA rfl 2 rfl (by decide) rfl rfl (fun w1 bHH a hA hb HH gHH => ?_)
  replace gHH := Nat.le_trans HB.size gHH
  replace HB := HB.trans (hb.mono HB.size)
  clear hb
  refine W_boxT hA rfl 3 rfl (by decide) rfl rfl (fun w2 bTT a hA hb TT gTT => ?_)
  have nHHTT : bHH < bTT := by have := HH.lt; omega
  replace gTT := Nat.le_trans HB.size gTT
  replace HB := HB.trans (hb.mono HB.size)
  replace HH := HH.below hb
  clear hb
  refine W_val hA rfl 4 rfl (by decide) _ _ (R_asg hA rfl rfl _) (fun a hA => ?_)
  refine W_nil ?_
  refine then_nrm ?_
  show Code.wp Try.prog _ _ _ _
  refine wp_seq ?_
  refine wp_region_list ?_
  refine W_val hA rfl 6 rfl (by decide) _ _ (R_fa hA rfl rfl (fun w => fa_ts _ 0 (by decide) w) _) (fun a hA => ?_)
  refine W_stT0 hA rfl rfl rfl rfl TT (fun w3 hT HN => ?_)
  replace HB := HB.trans (hT.bel _ gTT)
  replace HH := hT.hart HH (by omega)
  replace TT := HN
  clear hT HN
  refine W_nil ?_
  refine then_nrm ?_
  show Code.wp Try.prog _ _ _ _
  refine wp_seq ?_
  refine wp_region_list ?_
  refine W_val hA rfl 7 rfl (by decide) _ _ (R_row hA rfl rfl HH Try.underlying25 (size_hart.trans (by rw [varr_size]))) (fun a hA => ?_)
  refine W_val hA rfl 8 rfl (by decide) _ _ (R_row hA rfl rfl TT Try.underlying27 (size_ts _)) (fun a hA => ?_)
  refine W_callA hA (by decide) (fun _ _ => by kernel_rfl) (args2 hA rfl rfl) (enter_to ok sk.on hk _) (fun w4 hw a hA => ?_)
  replace HB := HB.trans (hw.mono HB.size)
  replace HH := HH.below hw
  replace TT := TT.below hw
  clear hw
  refine W_allocH hA rfl 5 rfl (by decide) rfl (fun w5 bA5 a hA hb A5 gA5 => ?_)
  have nHHA5 : bHH < bA5 := by have := HH.lt; omega
  have nTTA5 : bTT < bA5 := by have := TT.lt; omega
  replace gA5 := Nat.le_trans HB.size gA5
  replace HB := HB.trans (hb.mono HB.size)
  replace HH := HH.below hb
  replace TT := TT.below hb
  clear hb
  refine W_cpH hA rfl rfl rfl rfl rfl A5 (fun w6 hT HN => ?_)
  replace HB := HB.trans (hT.bel _ gA5)
  replace HH := hT.hart HH (by omega)
  replace TT := hT.ts TT (by omega)
  replace A5 := HN
  clear hT HN
  refine W_nil ?_
  refine then_nrm ?_
  show Code.wp Try.prog _ _ _ _
  refine wp_seq ?_
  refine wp_seq ?_
  refine wp_region_list ?_
  refine W_val hA rfl 10 rfl (by decide) _ _ (R_row hA rfl rfl HH Try.underlying25 (size_hart.trans (by rw [varr_size]))) (fun a hA => ?_)
  refine W_val hA rfl 11 rfl (by decide) _ _ (R_fa hA rfl rfl (fun w => fa_ts _ 1 (by decide) w) _) (fun a hA => ?_)
  refine W_val hA rfl 12 rfl (by decide) _ _ (R_ld (v := .int .u64 (s.on.c)) hA rfl rfl ag_u64 (TsB.cell TT 1 _ rfl)) (fun a hA => ?_)
  refine W_callA hA (by decide) (fun _ _ => by kernel_rfl) (args2 hA rfl rfl) (to_to (k := 1) ok sk.on.c z _) (fun w7 hw a hA => ?_)
  replace HB := HB.trans (hw.mono HB.size)
  replace HH := HH.below hw
  replace TT := TT.below hw
  replace A5 := A5.below hw
  clear hw
  refine W_nil ?_
  refine then_nrm ?_
  show Code.wp Try.prog _ _ _ _
  refine wp_block ?_
  refine wp_seq ?_
  refine wp_region_list ?_
  refine W_val hA rfl 15 rfl (by decide) _ _ (R_eqlIT hA rfl rfl rfl false (by decide) _) (fun a hA => ?_)
  refine W_val hA rfl 14 rfl (by decide) _ _ (R_asg hA rfl rfl _) (fun a hA => ?_)
  refine W_nil ?_
  refine then_nrm ?_
  show Code.wp Try.prog _ _ _ _
  refine wp_cond_false (hA.ev (x := .tmp 14) rfl) ?_
  refine wp_seq ?_
  refine wp_region_list ?_
  refine W_val hA rfl 25 rfl (by decide) _ _ (R_eqlIT hA rfl rfl rfl true (by decide) _) (fun a hA => ?_)
  refine W_val hA rfl 24 rfl (by decide) _ _ (R_asg hA rfl rfl _) (fun a hA => ?_)
  refine W_nil ?_
  refine then_nrm ?_
  show Code.wp Try.prog _ _ _ _
  refine wp_cond_true (hA.ev (x := .tmp 24) rfl) ?_
  refine wp_seq ?_
  refine wp_region_list ?_
  refine W_val hA rfl 26 rfl (by decide) _ _ (R_fa hA rfl rfl (fun w => fa_hart _ 7 38 (by decide) rfl w) _) (fun a hA => ?_)
  refine W_val hA rfl 27 rfl (by decide) _ _ (R_ld (v := .int .u64 (k.n 38)) hA rfl rfl ag_u64 (A5.u 38 (by decide) (by decide))) (fun a hA => ?_)
  refine W_val hA rfl 28 rfl (by decide) _ _ (R_shrN hA rfl 1 rfl (okk.n 38).1 (by decide) rfl _) (fun a hA => ?_)
  refine W_val hA rfl 29 rfl (by decide) _ _ (R_and hA rfl rfl rfl _) (fun a hA => ?_)
  refine W_val hA rfl 30 rfl (by decide) _ _ (R_eqlUT hA rfl rfl rfl true (and1_zero (okk.n 38) 1 hq) _) (fun a hA => ?_)
  refine W_val hA rfl 31 rfl (by decide) _ _ (R_mov hA rfl rfl _) (fun a hA => ?_)
  refine W_gval hA rfl rfl rfl 32 rfl (by decide) _ _ (R_fa hA rfl rfl (fun w => fa_hart _ 7 38 (by decide) rfl w) _) (fun a hA => ?_)
  refine W_gval hA rfl rfl rfl 33 rfl (by decide) _ _ (R_ld (v := .int .u64 (k.n 38)) hA rfl rfl ag_u64 (A5.u 38 (by decide) (by decide))) (fun a hA => ?_)
  refine W_gval hA rfl rfl rfl 34 rfl (by decide) _ _ (R_shrN hA rfl 3 rfl (okk.n 38).1 (by decide) rfl _) (fun a hA => ?_)
  refine W_gval hA rfl rfl rfl 35 rfl (by decide) _ _ (R_and hA rfl rfl rfl _) (fun a hA => ?_)
  refine W_gval hA rfl rfl rfl 36 rfl (by decide) _ _ (R_fa hA rfl rfl (fun w => fa_hart _ 7 38 (by decide) rfl w) _) (fun a hA => ?_)
  refine W_gval hA rfl rfl rfl 37 rfl (by decide) _ _ (R_ld (v := .int .u64 (t.n 38)) hA rfl rfl ag_u64 (HH.u 38 (by decide) (by decide))) (fun a hA => ?_)
  refine W_gval hA rfl rfl rfl 38 rfl (by decide) _ _ (R_shrN hA rfl 3 rfl (ok.n 38).1 (by decide) rfl _) (fun a hA => ?_)
  refine W_gval hA rfl rfl rfl 39 rfl (by decide) _ _ (R_and hA rfl rfl rfl _) (fun a hA => ?_)
  refine W_gval hA rfl rfl rfl 40 rfl (by decide) _ _ (R_eqlUT hA rfl rfl rfl true (and1_eq (okk.n 38) (ok.n 38) 3 hr) _) (fun a hA => ?_)
  refine W_val hA rfl 41 rfl (by decide) _ _ (R_pick hA rfl rfl rfl _) (fun a hA => ?_)
  refine W_val hA rfl 42 rfl (by decide) _ _ (R_mov hA rfl rfl _) (fun a hA => ?_)
  refine W_gcallB hA rfl rfl (by decide) (fun _ _ => by kernel_rfl) (args0 ) (wakes_any _) (fun w8 hw a hA => ?_)
  replace HB := HB.trans (hw.mono HB.size)
  replace HH := HH.below hw
  replace TT := TT.below hw
  replace A5 := A5.below hw
  clear hw
  refine W_val hA rfl 44 rfl (by decide) _ _ (R_pick hA rfl rfl rfl _) (fun a hA => ?_)
  refine W_val hA rfl 4 rfl (by decide) _ _ (R_asg hA rfl rfl _) (fun a hA => ?_)
  refine W_nil ?_
  refine then_nrm ?_
  show Code.wp Try.prog _ _ _ _
  refine wp_ret ?_
  refine blk_ret ?_
  refine then_ret ?_
  exact ret_tmp (j := 4) (by kernel_rfl) hA (by decide) rfl ⟨rfl, HB⟩
set_option maxHeartbeats 8000000 in
theorem trapQuiet_2 (t : HS) (s : TS) (k : HS) (w : World) (ok : HOk t) (sk : TOk s) (okk : HOk k) (hk : enterZ t s.on = k) (z : toZ t s.on.c = 2) (hq : bitZ (k.n 68) 1 = false) (hr : k.n 38 = t.n 38) (hp : k.n 58 = t.n 58) : Calls Try.prog 7 #[hartV t, tsV s] w fun e w' => e = .returned (.bool true) ∧ Below w.heap.size w w' := by
  have HB := Below.refl w.heap.size w
  go_enter Try.func7, Try.ntmps7
  refine begin_fr [(1, tsV s), (0, hartV t)] 67 ?_ (fun a hA => ?_)
  · exact FrA.add (FrA.add (FrA.nil (by rfl) (by rfl)) 0 _ (by rfl)) 1 _ (by rfl)
  refine wp_seq ?_
  refine wp_region_list ?_
  refine W_boxH hA rfl 2 rfl (by decide) rfl rfl (fun w1 bHH a hA hb HH gHH => ?_)
  replace gHH := Nat.le_trans HB.size gHH
  replace HB := HB.trans (hb.mono HB.size)
  clear hb
  refine W_boxT hA rfl 3 rfl (by decide) rfl rfl (fun w2 bTT a hA hb TT gTT => ?_)
  have nHHTT : bHH < bTT := by have := HH.lt; omega
  replace gTT := Nat.le_trans HB.size gTT
  replace HB := HB.trans (hb.mono HB.size)
  replace HH := HH.below hb
  clear hb
  refine W_val hA rfl 4 rfl (by decide) _ _ (R_asg hA rfl rfl _) (fun a hA => ?_)
  refine W_nil ?_
  refine then_nrm ?_
  show Code.wp Try.prog _ _ _ _
  refine wp_seq ?_
  refine wp_region_list ?_
  refine W_val hA rfl 6 rfl (by decide) _ _ (R_fa hA rfl rfl (fun w => fa_ts _ 0 (by decide) w) _) (fun a hA => ?_)
  refine W_stT0 hA rfl rfl rfl rfl TT (fun w3 hT HN => ?_)
  replace HB := HB.trans (hT.bel _ gTT)
  replace HH := hT.hart HH (by omega)
  replace TT := HN
  clear hT HN
  refine W_nil ?_
  refine then_nrm ?_
  show Code.wp Try.prog _ _ _ _
  refine wp_seq ?_
  refine wp_region_list ?_
  refine W_val hA rfl 7 rfl (by decide) _ _ (R_row hA rfl rfl HH Try.underlying25 (size_hart.trans (by rw [varr_size]))) (fun a hA => ?_)
  refine W_val hA rfl 8 rfl (by decide) _ _ (R_row hA rfl rfl TT Try.underlying27 (size_ts _)) (fun a hA => ?_)
  refine W_callA hA (by decide) (fun _ _ => by kernel_rfl) (args2 hA rfl rfl) (enter_to ok sk.on hk _) (fun w4 hw a hA => ?_)
  replace HB := HB.trans (hw.mono HB.size)
  replace HH := HH.below hw
  replace TT := TT.below hw
  clear hw
  refine W_allocH hA rfl 5 rfl (by decide) rfl (fun w5 bA5 a hA hb A5 gA5 => ?_)
  have nHHA5 : bHH < bA5 := by have := HH.lt; omega
  have nTTA5 : bTT < bA5 := by have := TT.lt; omega
  replace gA5 := Nat.le_trans HB.size gA5
  replace HB := HB.trans (hb.mono HB.size)
  replace HH := HH.below hb
  replace TT := TT.below hb
  clear hb
  refine W_cpH hA rfl rfl rfl rfl rfl A5 (fun w6 hT HN => ?_)
  replace HB := HB.trans (hT.bel _ gA5)
  replace HH := hT.hart HH (by omega)
  replace TT := hT.ts TT (by omega)
  replace A5 := HN
  clear hT HN
  refine W_nil ?_
  refine then_nrm ?_
  show Code.wp Try.prog _ _ _ _
  refine wp_seq ?_
  refine wp_seq ?_
  refine wp_region_list ?_
  refine W_val hA rfl 10 rfl (by decide) _ _ (R_row hA rfl rfl HH Try.underlying25 (size_hart.trans (by rw [varr_size]))) (fun a hA => ?_)
  refine W_val hA rfl 11 rfl (by decide) _ _ (R_fa hA rfl rfl (fun w => fa_ts _ 1 (by decide) w) _) (fun a hA => ?_)
  refine W_val hA rfl 12 rfl (by decide) _ _ (R_ld (v := .int .u64 (s.on.c)) hA rfl rfl ag_u64 (TsB.cell TT 1 _ rfl)) (fun a hA => ?_)
  refine W_callA hA (by decide) (fun _ _ => by kernel_rfl) (args2 hA rfl rfl) (to_to (k := 2) ok sk.on.c z _) (fun w7 hw a hA => ?_)
  replace HB := HB.trans (hw.mono HB.size)
  replace HH := HH.below hw
  replace TT := TT.below hw
  replace A5 := A5.below hw
  clear hw
  refine W_nil ?_
  refine then_nrm ?_
  show Code.wp Try.prog _ _ _ _
  refine wp_block ?_
  refine wp_seq ?_
  refine wp_region_list ?_
  refine W_val hA rfl 15 rfl (by decide) _ _ (R_eqlIT hA rfl rfl rfl false (by decide) _) (fun a hA => ?_)
  refine W_val hA rfl 14 rfl (by decide) _ _ (R_asg hA rfl rfl _) (fun a hA => ?_)
  refine W_nil ?_
  refine then_nrm ?_
  show Code.wp Try.prog _ _ _ _
  refine wp_cond_false (hA.ev (x := .tmp 14) rfl) ?_
  refine wp_seq ?_
  refine wp_region_list ?_
  refine W_val hA rfl 25 rfl (by decide) _ _ (R_eqlIT hA rfl rfl rfl false (by decide) _) (fun a hA => ?_)
  refine W_val hA rfl 24 rfl (by decide) _ _ (R_asg hA rfl rfl _) (fun a hA => ?_)
  refine W_nil ?_
  refine then_nrm ?_
  show Code.wp Try.prog _ _ _ _
  refine wp_cond_false (hA.ev (x := .tmp 24) rfl) ?_
  refine wp_skip ?_
  refine blk_nrm ?_
  refine then_nrm ?_
  show Code.wp Try.prog _ _ _ _
  refine wp_seq ?_
  refine wp_region_list ?_
  refine W_val hA rfl 45 rfl (by decide) _ _ (R_fa hA rfl rfl (fun w => fa_hart _ 37 68 (by decide) rfl w) _) (fun a hA => ?_)
  refine W_val hA rfl 46 rfl (by decide) _ _ (R_ld (v := .int .u64 (k.n 68)) hA rfl rfl ag_u64 (A5.u 68 (by decide) (by decide))) (fun a hA => ?_)
  refine W_val hA rfl 47 rfl (by decide) _ _ (R_shrN hA rfl 1 rfl (okk.n 68).1 (by decide) rfl _) (fun a hA => ?_)
  refine W_val hA rfl 48 rfl (by decide) _ _ (R_and hA rfl rfl rfl _) (fun a hA => ?_)
  refine W_val hA rfl 49 rfl (by decide) _ _ (R_eqlUT hA rfl rfl rfl true (and1_zero (okk.n 68) 1 hq) _) (fun a hA => ?_)
  refine W_val hA rfl 50 rfl (by decide) _ _ (R_mov hA rfl rfl _) (fun a hA => ?_)
  refine W_gval hA rfl rfl rfl 51 rfl (by decide) _ _ (R_fa hA rfl rfl (fun w => fa_hart _ 7 38 (by decide) rfl w) _) (fun a hA => ?_)
  refine W_gval hA rfl rfl rfl 52 rfl (by decide) _ _ (R_ld (v := .int .u64 (k.n 38)) hA rfl rfl ag_u64 (A5.u 38 (by decide) (by decide))) (fun a hA => ?_)
  refine W_gval hA rfl rfl rfl 53 rfl (by decide) _ _ (R_fa hA rfl rfl (fun w => fa_hart _ 7 38 (by decide) rfl w) _) (fun a hA => ?_)
  refine W_gval hA rfl rfl rfl 54 rfl (by decide) _ _ (R_ld (v := .int .u64 (t.n 38)) hA rfl rfl ag_u64 (HH.u 38 (by decide) (by decide))) (fun a hA => ?_)
  refine W_gval hA rfl rfl rfl 55 rfl (by decide) _ _ (R_eqlUT hA rfl rfl rfl true (by rw [hr]; exact beq_self_eq_true _) _) (fun a hA => ?_)
  refine W_val hA rfl 56 rfl (by decide) _ _ (R_pick hA rfl rfl rfl _) (fun a hA => ?_)
  refine W_val hA rfl 57 rfl (by decide) _ _ (R_mov hA rfl rfl _) (fun a hA => ?_)
  refine W_gval hA rfl rfl rfl 58 rfl (by decide) _ _ (R_fa hA rfl rfl (fun w => fa_hart _ 27 58 (by decide) rfl w) _) (fun a hA => ?_)
  refine W_gval hA rfl rfl rfl 59 rfl (by decide) _ _ (R_ld (v := .int .u64 (k.n 58)) hA rfl rfl ag_u64 (A5.u 58 (by decide) (by decide))) (fun a hA => ?_)
  refine W_gval hA rfl rfl rfl 60 rfl (by decide) _ _ (R_fa hA rfl rfl (fun w => fa_hart _ 27 58 (by decide) rfl w) _) (fun a hA => ?_)
  refine W_gval hA rfl rfl rfl 61 rfl (by decide) _ _ (R_ld (v := .int .u64 (t.n 58)) hA rfl rfl ag_u64 (HH.u 58 (by decide) (by decide))) (fun a hA => ?_)
  refine W_gval hA rfl rfl rfl 62 rfl (by decide) _ _ (R_eqlUT hA rfl rfl rfl true (by rw [hp]; exact beq_self_eq_true _) _) (fun a hA => ?_)
  refine W_val hA rfl 63 rfl (by decide) _ _ (R_pick hA rfl rfl rfl _) (fun a hA => ?_)
  refine W_val hA rfl 64 rfl (by decide) _ _ (R_mov hA rfl rfl _) (fun a hA => ?_)
  refine W_gcallB hA rfl rfl (by decide) (fun _ _ => by kernel_rfl) (args0 ) (wakes_any _) (fun w8 hw a hA => ?_)
  replace HB := HB.trans (hw.mono HB.size)
  replace HH := HH.below hw
  replace TT := TT.below hw
  replace A5 := A5.below hw
  clear hw
  refine W_val hA rfl 66 rfl (by decide) _ _ (R_pick hA rfl rfl rfl _) (fun a hA => ?_)
  refine W_val hA rfl 4 rfl (by decide) _ _ (R_asg hA rfl rfl _) (fun a hA => ?_)
  refine W_nil ?_
  refine then_nrm ?_
  show Code.wp Try.prog _ _ _ _
  refine wp_ret ?_
  exact ret_tmp (j := 4) (by kernel_rfl) hA (by decide) rfl ⟨rfl, HB⟩
theorem trapQuiet_walk (t : HS) (s : TS) (w : World) (ok : HOk t) (sk : TOk s) : Calls Try.prog 7 #[hartV t, tsV s] w fun e w' => e = .returned (.bool true) ∧ Below w.heap.size w w' := by
  have hl := toZ_lt t s.on.c
  rcases (show toZ t s.on.c = 0 ∨ toZ t s.on.c = 1 ∨ toZ t s.on.c = 2 by omega) with z | z | z
  · refine trapQuiet_0 t s _ w ok sk (ok_enterM ok sk.on) (enterZ_m rfl z) z ?_
    have e : (enterM t s.on.c s.on.tv s.on.tv2 s.on.ti s.on.g).n 38 = stM (t.n 38) (t.n 33) t.v s.on.g := by unfold enterM HS.mode; simp [HS.put]
    rw [e]; exact quietM _ _ _ _
  · have e : (enterH t s.on.c s.on.tv s.on.tv2 s.on.ti s.on.g).n 38 = stS (t.n 38) (t.n 33) := by unfold enterH HS.mode; simp [HS.put]
    refine trapQuiet_1 t s _ w ok sk (ok_enterH ok sk.on) (enterZ_h rfl z) z ?_ ?_
    · rw [e]; exact (quietS _ _).1
    · rw [e]; exact (quietS _ _).2
  · refine trapQuiet_2 t s _ w ok sk (ok_enterG ok sk.on) (enterZ_g rfl z) z ?_ ?_ ?_
    · have e : (enterG t s.on.c s.on.tv).n 68 = stS (t.n 68) (t.n 33) := by unfold enterG HS.mode; simp [HS.put]
      rw [e]; exact (quietS _ _).1
    · unfold enterG HS.mode; simp [HS.put]
    · unfold enterG HS.mode; simp [HS.put]
end Go.Proofs.Ytkfhpmleelmcfaa
