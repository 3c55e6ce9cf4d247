/- Layer 14: the walk of TrapBack (written by gen_trf.py by walkf.py). -/
import Derived.Test.YtkfhpmleelmcfaaTrF
namespace Go.Proofs.Ytkfhpmleelmcfaa
open Go.RowKit
set_option linter.unusedVariables false
set_option maxRecDepth 100000

set_option maxHeartbeats 8000000 in
theorem trapBack_0 (t : HS) (s : TS) (f k b : HS) (w : World) (ok : HOk t) (sk : TOk s) (hf : fixZ t = f) (okf : HOk f) (okk : HOk k) (okb : HOk b) (hk : enterZ f s.on = k) (z : toZ f s.on.c = 0) (b0 : b.n 0 = f.n 0) (b33 : b.n 33 = f.n 33) (bv : b.v = f.v) (bX : ∀ i, 1 ≤ i → i ≤ 32 → b.n i = f.n i) (kp : k.n 33 = 3) (kv : k.v = false) (kc : k.n 47 = s.on.c) (hb : mretZ k = b) (hi : bitZ (b.n 38) 3 = bitZ (f.n 38) 3) : Calls Try.prog 5 #[hartV t, tsV s] w fun e w' => e = .returned (.bool true) ∧ Below w.heap.size w w' := by
  have HB := Below.refl w.heap.size w
  go_enter Try.func5, Try.ntmps5
  refine begin_fr [(1, tsV s), (0, hartV t)] 119 ?_ (fun a hA => ?_)
  · exact FrA.add (FrA.add (FrA.nil (by rfl) (by rfl)) 0 _ (by rfl)) 1 _ (by rfl)
  refine wp_seq ?_
  refine wp_region_list ?_
  refine W_boxH hA rfl 2 rfl (by decide) rfl rfl (fun w1 bHH a hA hb HH gHH => ?_)
  replace gHH := Nat.le_trans HB.size gHH
  replace HB := HB.trans (hb.mono HB.size)
  clear hb
  refine W_boxT hA rfl 3 rfl (by decide) rfl rfl (fun w2 bTT a hA hb TT gTT => ?_)
  have nHHTT : bHH < bTT := by have := HH.lt; omega
  replace gTT := Nat.le_trans HB.size gTT
  replace HB := HB.trans (hb.mono HB.size)
  replace HH := HH.below hb
  clear hb
  refine W_val hA rfl 4 rfl (by decide) _ _ (R_asg hA rfl rfl _) (fun a hA => ?_)
  refine W_nil ?_
  refine then_nrm ?_
  show Code.wp Try.prog _ _ _ _
  refine wp_seq ?_
  refine wp_region_list ?_
  refine W_val hA rfl 7 rfl (by decide) _ _ (R_row hA rfl rfl HH Try.underlying25 (size_hart.trans (by rw [varr_size]))) (fun a hA => ?_)
  refine W_callA hA (by decide) (fun _ _ => by kernel_rfl) (args1 hA rfl) (fix_to ok hf _) (fun w3 hw a hA => ?_)
  replace HB := HB.trans (hw.mono HB.size)
  replace HH := HH.below hw
  replace TT := TT.below hw
  clear hw
  refine W_cpH hA rfl rfl rfl rfl rfl HH (fun w4 hT HN => ?_)
  replace HB := HB.trans (hT.bel _ gHH)
  replace TT := hT.ts TT (by omega)
  replace HH := HN
  clear hT HN
  refine W_nil ?_
  refine then_nrm ?_
  show Code.wp Try.prog _ _ _ _
  refine wp_seq ?_
  refine wp_region_list ?_
  refine W_val hA rfl 9 rfl (by decide) _ _ (R_fa hA rfl rfl (fun w => fa_ts _ 0 (by decide) w) _) (fun a hA => ?_)
  refine W_stT0 hA rfl rfl rfl rfl TT (fun w5 hT HN => ?_)
  replace HB := HB.trans (hT.bel _ gTT)
  replace HH := hT.hart HH (by omega)
  replace TT := HN
  clear hT HN
  refine W_nil ?_
  refine then_nrm ?_
  show Code.wp Try.prog _ _ _ _
  refine wp_seq ?_
  refine wp_region_list ?_
  refine W_val hA rfl 10 rfl (by decide) _ _ (R_row hA rfl rfl HH Try.underlying25 (size_hart.trans (by rw [varr_size]))) (fun a hA => ?_)
  refine W_val hA rfl 11 rfl (by decide) _ _ (R_row hA rfl rfl TT Try.underlying27 (size_ts _)) (fun a hA => ?_)
  refine W_callA hA (by decide) (fun _ _ => by kernel_rfl) (args2 hA rfl rfl) (enter_to okf sk.on hk _) (fun w6 hw a hA => ?_)
  replace HB := HB.trans (hw.mono HB.size)
  replace HH := HH.below hw
  replace TT := TT.below hw
  clear hw
  refine W_allocH hA rfl 5 rfl (by decide) rfl (fun w7 bA5 a hA hb A5 gA5 => ?_)
  have nHHA5 : bHH < bA5 := by have := HH.lt; omega
  have nTTA5 : bTT < bA5 := by have := TT.lt; omega
  replace gA5 := Nat.le_trans HB.size gA5
  replace HB := HB.trans (hb.mono HB.size)
  replace HH := HH.below hb
  replace TT := TT.below hb
  clear hb
  refine W_cpH hA rfl rfl rfl rfl rfl A5 (fun w8 hT HN => ?_)
  replace HB := HB.trans (hT.bel _ gA5)
  replace HH := hT.hart HH (by omega)
  replace TT := hT.ts TT (by omega)
  replace A5 := HN
  clear hT HN
  refine W_nil ?_
  refine then_nrm ?_
  show Code.wp Try.prog _ _ _ _
  refine wp_seq ?_
  refine wp_region_list ?_
  refine W_allocH hA rfl 6 rfl (by decide) rfl (fun w9 bA6 a hA hb A6 gA6 => ?_)
  have nHHA6 : bHH < bA6 := by have := HH.lt; omega
  have nTTA6 : bTT < bA6 := by have := TT.lt; omega
  have nA5A6 : bA5 < bA6 := by have := A5.lt; omega
  replace gA6 := Nat.le_trans HB.size gA6
  replace HB := HB.trans (hb.mono HB.size)
  replace HH := HH.below hb
  replace TT := TT.below hb
  replace A5 := A5.below hb
  clear hb
  refine W_nil ?_
  refine then_nrm ?_
  show Code.wp Try.prog _ _ _ _
  refine wp_seq ?_
  refine wp_seq ?_
  refine wp_region_list ?_
  refine W_val hA rfl 13 rfl (by decide) _ _ (R_row hA rfl rfl HH Try.underlying25 (size_hart.trans (by rw [varr_size]))) (fun a hA => ?_)
  refine W_val hA rfl 14 rfl (by decide) _ _ (R_fa hA rfl rfl (fun w => fa_ts _ 1 (by decide) w) _) (fun a hA => ?_)
  refine W_val hA rfl 15 rfl (by decide) _ _ (R_ld (v := .int .u64 (s.on.c)) hA rfl rfl ag_u64 (TsB.cell TT 1 _ rfl)) (fun a hA => ?_)
  refine W_callA hA (by decide) (fun _ _ => by kernel_rfl) (args2 hA rfl rfl) (to_to (k := 0) okf sk.on.c z _) (fun w10 hw a hA => ?_)
  replace HB := HB.trans (hw.mono HB.size)
  replace HH := HH.below hw
  replace TT := TT.below hw
  replace A5 := A5.below hw
  replace A6 := A6.below hw
  clear hw
  refine W_nil ?_
  refine then_nrm ?_
  show Code.wp Try.prog _ _ _ _
  refine wp_block ?_
  refine wp_seq ?_
  refine wp_region_list ?_
  refine W_val hA rfl 37 rfl (by decide) _ _ (R_eqlIT hA rfl rfl rfl true (by decide) _) (fun a hA => ?_)
  refine W_val hA rfl 36 rfl (by decide) _ _ (R_asg hA rfl rfl _) (fun a hA => ?_)
  refine W_nil ?_
  refine then_nrm ?_
  show Code.wp Try.prog _ _ _ _
  refine wp_cond_true (hA.ev (x := .tmp 36) rfl) ?_
  refine wp_seq ?_
  refine wp_seq ?_
  refine wp_region_list ?_
  refine W_val hA rfl 38 rfl (by decide) _ _ (R_fa hA rfl rfl (fun w => fa_hart _ 2 33 (by decide) rfl w) _) (fun a hA => ?_)
  refine W_val hA rfl 39 rfl (by decide) _ _ (R_ld (v := .int .u8 (k.n 33)) hA rfl rfl ag_u8 A5.p) (fun a hA => ?_)
  refine W_val hA rfl 40 rfl (by decide) _ _ (R_neqBN hA rfl rfl rfl false (by rw [kp]; rfl) _) (fun a hA => ?_)
  refine W_val hA rfl 41 rfl (by decide) _ _ (R_mov hA rfl rfl _) (fun a hA => ?_)
  refine W_gval hA rfl rfl rfl 42 rfl (by decide) _ _ (R_fa hA rfl rfl (fun w => fa_hart _ 3 34 (by decide) rfl w) _) (fun a hA => ?_)
  refine W_gval hA rfl rfl rfl 43 rfl (by decide) _ _ (R_ld (v := .bool false) hA rfl rfl ag_bool (A5.v.trans (by rw [kv]))) (fun a hA => ?_)
  refine W_val hA rfl 44 rfl (by decide) _ _ (R_pick hA rfl rfl rfl _) (fun a hA => ?_)
  refine W_val hA rfl 45 rfl (by decide) _ _ (R_mov hA rfl rfl _) (fun a hA => ?_)
  refine W_gval hA rfl rfl rfl 46 rfl (by decide) _ _ (R_fa hA rfl rfl (fun w => fa_hart _ 16 47 (by decide) rfl w) _) (fun a hA => ?_)
  refine W_gval hA rfl rfl rfl 47 rfl (by decide) _ _ (R_ld (v := .int .u64 (k.n 47)) hA rfl rfl ag_u64 (A5.u 47 (by decide) (by decide))) (fun a hA => ?_)
  refine W_gval hA rfl rfl rfl 48 rfl (by decide) _ _ (R_fa hA rfl rfl (fun w => fa_ts _ 1 (by decide) w) _) (fun a hA => ?_)
  refine W_gval hA rfl rfl rfl 49 rfl (by decide) _ _ (R_ld (v := .int .u64 (s.on.c)) hA rfl rfl ag_u64 (TsB.cell TT 1 _ rfl)) (fun a hA => ?_)
  refine W_gval hA rfl rfl rfl 50 rfl (by decide) _ _ (R_neqUT hA rfl rfl rfl false (by rw [kc]; exact bne_self_eq_false _) _) (fun a hA => ?_)
  refine W_val hA rfl 51 rfl (by decide) _ _ (R_pick hA rfl rfl rfl _) (fun a hA => ?_)
  refine W_nil ?_
  refine then_nrm ?_
  show Code.wp Try.prog _ _ _ _
  refine wp_cond_false (hA.ev (x := .tmp 51) rfl) ?_
  refine wp_skip ?_
  refine then_nrm ?_
  show Code.wp Try.prog _ _ _ _
  refine wp_seq ?_
  refine wp_region_list ?_
  refine W_val hA rfl 52 rfl (by decide) _ _ (R_row hA rfl rfl A5 Try.underlying25 (size_hart.trans (by rw [varr_size]))) (fun a hA => ?_)
  refine W_callA hA (by decide) (fun _ _ => by kernel_rfl) (args1 hA rfl) (mret_to okk hb _) (fun w11 hw a hA => ?_)
  replace HB := HB.trans (hw.mono HB.size)
  replace HH := HH.below hw
  replace TT := TT.below hw
  replace A5 := A5.below hw
  replace A6 := A6.below hw
  clear hw
  refine W_cpH hA rfl rfl rfl rfl rfl A6 (fun w12 hT HN => ?_)
  replace HB := HB.trans (hT.bel _ gA6)
  replace HH := hT.hart HH (by omega)
  replace TT := hT.ts TT (by omega)
  replace A5 := hT.hart A5 (by omega)
  replace A6 := HN
  clear hT HN
  refine W_nil ?_
  refine then_nrm ?_
  show Code.wp Try.prog _ _ _ _
  refine wp_seq ?_
  refine wp_region_list ?_
  refine W_val hA rfl 54 rfl (by decide) _ _ (R_fa hA rfl rfl (fun w => fa_hart _ 7 38 (by decide) rfl w) _) (fun a hA => ?_)
  refine W_val hA rfl 55 rfl (by decide) _ _ (R_ld (v := .int .u64 (b.n 38)) hA rfl rfl ag_u64 (A6.u 38 (by decide) (by decide))) (fun a hA => ?_)
  refine W_val hA rfl 56 rfl (by decide) _ _ (R_shrN hA rfl 3 rfl (okb.n 38).1 (by decide) rfl _) (fun a hA => ?_)
  refine W_val hA rfl 57 rfl (by decide) _ _ (R_and hA rfl rfl rfl _) (fun a hA => ?_)
  refine W_val hA rfl 58 rfl (by decide) _ _ (R_fa hA rfl rfl (fun w => fa_hart _ 7 38 (by decide) rfl w) _) (fun a hA => ?_)
  refine W_val hA rfl 59 rfl (by decide) _ _ (R_ld (v := .int .u64 (f.n 38)) hA rfl rfl ag_u64 (HH.u 38 (by decide) (by decide))) (fun a hA => ?_)
  refine W_val hA rfl 60 rfl (by decide) _ _ (R_shrN hA rfl 3 rfl (okf.n 38).1 (by decide) rfl _) (fun a hA => ?_)
  refine W_val hA rfl 61 rfl (by decide) _ _ (R_and hA rfl rfl rfl _) (fun a hA => ?_)
  refine W_val hA rfl 62 rfl (by decide) _ _ (R_neqUT hA rfl rfl rfl false (and1_ne (okb.n 38) (okf.n 38) 3 hi) _) (fun a hA => ?_)
  refine W_nil ?_
  refine then_nrm ?_
  show Code.wp Try.prog _ _ _ _
  refine wp_cond_false (hA.ev (x := .tmp 62) rfl) ?_
  refine wp_skip ?_
  refine blk_nrm ?_
  refine then_nrm ?_
  show Code.wp Try.prog _ _ _ _
  refine wp_seq ?_
  refine wp_region_list ?_
  refine W_val hA rfl 90 rfl (by decide) _ _ (R_fa hA rfl rfl (fun w => fa_hart _ 0 0 (by decide) rfl w) _) (fun a hA => ?_)
  refine W_val hA rfl 91 rfl (by decide) _ _ (R_ld (v := .int .u64 (b.n 0)) hA rfl rfl ag_u64 (A6.u 0 (by decide) (by decide))) (fun a hA => ?_)
  refine W_val hA rfl 92 rfl (by decide) _ _ (R_fa hA rfl rfl (fun w => fa_hart _ 0 0 (by decide) rfl w) _) (fun a hA => ?_)
  refine W_val hA rfl 93 rfl (by decide) _ _ (R_ld (v := .int .u64 (f.n 0)) hA rfl rfl ag_u64 (HH.u 0 (by decide) (by decide))) (fun a hA => ?_)
  refine W_val hA rfl 94 rfl (by decide) _ _ (R_eqlUT hA rfl rfl rfl true (by rw [b0]; exact beq_self_eq_true _) _) (fun a hA => ?_)
  refine W_val hA rfl 95 rfl (by decide) _ _ (R_mov hA rfl rfl _) (fun a hA => ?_)
  refine W_gval hA rfl rfl rfl 96 rfl (by decide) _ _ (R_fa hA rfl rfl (fun w => fa_hart _ 2 33 (by decide) rfl w) _) (fun a hA => ?_)
  refine W_gval hA rfl rfl rfl 97 rfl (by decide) _ _ (R_ld (v := .int .u8 (b.n 33)) hA rfl rfl ag_u8 A6.p) (fun a hA => ?_)
  refine W_gval hA rfl rfl rfl 98 rfl (by decide) _ _ (R_fa hA rfl rfl (fun w => fa_hart _ 2 33 (by decide) rfl w) _) (fun a hA => ?_)
  refine W_gval hA rfl rfl rfl 99 rfl (by decide) _ _ (R_ld (v := .int .u8 (f.n 33)) hA rfl rfl ag_u8 HH.p) (fun a hA => ?_)
  refine W_gval hA rfl rfl rfl 100 rfl (by decide) _ _ (R_eqlBN hA rfl rfl rfl true (by rw [b33]; exact beq_self_eq_true _) _) (fun a hA => ?_)
  refine W_val hA rfl 101 rfl (by decide) _ _ (R_pick hA rfl rfl rfl _) (fun a hA => ?_)
  refine W_val hA rfl 102 rfl (by decide) _ _ (R_mov hA rfl rfl _) (fun a hA => ?_)
  refine W_gval hA rfl rfl rfl 103 rfl (by decide) _ _ (R_fa hA rfl rfl (fun w => fa_hart _ 3 34 (by decide) rfl w) _) (fun a hA => ?_)
  refine W_gval hA rfl rfl rfl 104 rfl (by decide) _ _ (R_ld (v := .bool (b.v)) hA rfl rfl ag_bool A6.v) (fun a hA => ?_)
  refine W_gval hA rfl rfl rfl 105 rfl (by decide) _ _ (R_fa hA rfl rfl (fun w => fa_hart _ 3 34 (by decide) rfl w) _) (fun a hA => ?_)
  refine W_gval hA rfl rfl rfl 106 rfl (by decide) _ _ (R_ld (v := .bool (f.v)) hA rfl rfl ag_bool HH.v) (fun a hA => ?_)
  refine W_gval hA rfl rfl rfl 107 rfl (by decide) _ _ (R_eqlBT hA rfl rfl rfl true (by rw [bv]; exact beq_self_eq_true _) _) (fun a hA => ?_)
  refine W_val hA rfl 108 rfl (by decide) _ _ (R_pick hA rfl rfl rfl _) (fun a hA => ?_)
  refine W_val hA rfl 109 rfl (by decide) _ _ (R_mov hA rfl rfl _) (fun a hA => ?_)
  refine W_gval hA rfl rfl rfl 110 rfl (by decide) _ _ (R_fa hA rfl rfl (fun w => fa_hart _ 1 1 (by decide) rfl w) _) (fun a hA => ?_)
  refine W_gval hA rfl rfl rfl 111 rfl (by decide) _ _ (R_ldXe hA rfl f bX rfl A6) (fun a hA => ?_)
  refine W_gval hA rfl rfl rfl 112 rfl (by decide) _ _ (R_fa hA rfl rfl (fun w => fa_hart _ 1 1 (by decide) rfl w) _) (fun a hA => ?_)
  refine W_gval hA rfl rfl rfl 113 rfl (by decide) _ _ (R_ldX hA rfl rfl HH) (fun a hA => ?_)
  refine W_gval hA rfl rfl rfl 114 rfl (by decide) _ _ (R_eqlX hA rfl rfl rfl _) (fun a hA => ?_)
  refine W_val hA rfl 115 rfl (by decide) _ _ (R_pick hA rfl rfl rfl _) (fun a hA => ?_)
  refine W_val hA rfl 116 rfl (by decide) _ _ (R_mov hA rfl rfl _) (fun a hA => ?_)
  refine W_gcallB hA rfl rfl (by decide) (fun _ _ => by kernel_rfl) (args0 ) (wakes_any _) (fun w13 hw a hA => ?_)
  replace HB := HB.trans (hw.mono HB.size)
  replace HH := HH.below hw
  replace TT := TT.below hw
  replace A5 := A5.below hw
  replace A6 := A6.below hw
  clear hw
  refine W_val hA rfl 118 rfl (by decide) _ _ (R_pick hA rfl rfl rfl _) (fun a hA => ?_)
  refine W_val hA rfl 4 rfl (by decide) _ _ (R_asg hA rfl rfl _) (fun a hA => ?_)
  refine W_nil ?_
  refine then_nrm ?_
  show Code.wp Try.prog _ _ _ _
  refine wp_ret ?_
  exact ret_tmp (j := 4) (by kernel_rfl) hA (by decide) rfl ⟨rfl, HB⟩
set_option maxHeartbeats 8000000 in
theorem trapBack_1 (t : HS) (s : TS) (f k b : HS) (w : World) (ok : HOk t) (sk : TOk s) (hf : fixZ t = f) (okf : HOk f) (okk : HOk k) (okb : HOk b) (hk : enterZ f s.on = k) (z : toZ f s.on.c = 1) (b0 : b.n 0 = f.n 0) (b33 : b.n 33 = f.n 33) (bv : b.v = f.v) (bX : ∀ i, 1 ≤ i → i ≤ 32 → b.n i = f.n i) (kp : k.n 33 = 1) (kv : k.v = false) (kc : k.n 55 = s.on.c) (hb : sretZ k = b) (hi : bitZ (b.n 38) 1 = bitZ (f.n 38) 1) : Calls Try.prog 5 #[hartV t, tsV s] w fun e w' => e = .returned (.bool true) ∧ Below w.heap.size w w' := by
  have HB := Below.refl w.heap.size w
  go_enter Try.func5, Try.ntmps5
  refine begin_fr [(1, tsV s), (0, hartV t)] 119 ?_ (fun a hA => ?_)
  · exact FrA.add (FrA.add (FrA.nil (by rfl) (by rfl)) 0 _ (by rfl)) 1 _ (by rfl)
  refine wp_seq ?_
  refine wp_region_list ?_
  refine W_boxH hA rfl 2 rfl (by decide) rfl rfl (fun w1 bHH a hA hb HH gHH => ?_)
  replace gHH := Nat.le_trans HB.size gHH
  replace HB := HB.trans (hb.mono HB.size)
  clear hb
  refine W_boxT hA rfl 3 rfl (by decide) rfl rfl (fun w2 bTT a hA hb TT gTT => ?_)
  have nHHTT : bHH < bTT := by have := HH.lt; omega
  replace gTT := Nat.le_trans HB.size gTT
  replace HB := HB.trans (hb.mono HB.size)
  replace HH := HH.below hb
  clear hb
  refine W_val hA rfl 4 rfl (by decide) _ _ (R_asg hA rfl rfl _) (fun a hA => ?_)
  refine W_nil ?_
  refine then_nrm ?_
  show Code.wp Try.prog _ _ _ _
  refine wp_seq ?_
  refine wp_region_list ?_
  refine W_val hA rfl 7 rfl (by decide) _ _ (R_row hA rfl rfl HH Try.underlying25 (size_hart.trans (by rw [varr_size]))) (fun a hA => ?_)
  refine W_callA hA (by decide) (fun _ _ => by kernel_rfl) (args1 hA rfl) (fix_to ok hf _) (fun w3 hw a hA => ?_)
  replace HB := HB.trans (hw.mono HB.size)
  replace HH := HH.below hw
  replace TT := TT.below hw
  clear hw
  refine W_cpH hA rfl rfl rfl rfl rfl HH (fun w4 hT HN => ?_)
  replace HB := HB.trans (hT.bel _ gHH)
  replace TT := hT.ts TT (by omega)
  replace HH := HN
  clear hT HN
  refine W_nil ?_
  refine then_nrm ?_
  show Code.wp Try.prog _ _ _ _
  refine wp_seq ?_
  refine wp_region_list ?_
  refine W_val hA rfl 9 rfl (by decide) _ _ (R_fa hA rfl rfl (fun w => fa_ts _ 0 (by decide) w) _) (fun a hA => ?_)
  refine W_stT0 hA rfl rfl rfl rfl TT (fun w5 hT HN => ?_)
  replace HB := HB.trans (hT.bel _ gTT)
  replace HH := hT.hart HH (by omega)
  replace TT := HN
  clear hT HN
  refine W_nil ?_
  refine then_nrm ?_
  show Code.wp Try.prog _ _ _ _
  refine wp_seq ?_
  refine wp_region_list ?_
  refine W_val hA rfl 10 rfl (by decide) _ _ (R_row hA rfl rfl HH Try.underlying25 (size_hart.trans (by rw [varr_size]))) (fun a hA => ?_)
  refine W_val hA rfl 11 rfl (by decide) _ _ (R_row hA rfl rfl TT Try.underlying27 (size_ts _)) (fun a hA => ?_)
  refine W_callA hA (by decide) (fun _ _ => by kernel_rfl) (args2 hA rfl rfl) (enter_to okf sk.on hk _) (fun w6 hw a hA => ?_)
  replace HB := HB.trans (hw.mono HB.size)
  replace HH := HH.below hw
  replace TT := TT.below hw
  clear hw
  refine W_allocH hA rfl 5 rfl (by decide) rfl (fun w7 bA5 a hA hb A5 gA5 => ?_)
  have nHHA5 : bHH < bA5 := by have := HH.lt; omega
  have nTTA5 : bTT < bA5 := by have := TT.lt; omega
  replace gA5 := Nat.le_trans HB.size gA5
  replace HB := HB.trans (hb.mono HB.size)
  replace HH := HH.below hb
  replace TT := TT.below hb
  clear hb
  refine W_cpH hA rfl rfl rfl rfl rfl A5 (fun w8 hT HN => ?_)
  replace HB := HB.trans (hT.bel _ gA5)
  replace HH := hT.hart HH (by omega)
  replace TT := hT.ts TT (by omega)
  replace A5 := HN
  clear hT HN
  refine W_nil ?_
  refine then_nrm ?_
  show Code.wp Try.prog _ _ _ _
  refine wp_seq ?_
  refine wp_region_list ?_
  refine W_allocH hA rfl 6 rfl (by decide) rfl (fun w9 bA6 a hA hb A6 gA6 => ?_)
  have nHHA6 : bHH < bA6 := by have := HH.lt; omega
  have nTTA6 : bTT < bA6 := by have := TT.lt; omega
  have nA5A6 : bA5 < bA6 := by have := A5.lt; omega
  replace gA6 := Nat.le_trans HB.size gA6
  replace HB := HB.trans (hb.mono HB.size)
  replace HH := HH.below hb
  replace TT := TT.below hb
  replace A5 := A5.below hb
  clear hb
  refine W_nil ?_
  refine then_nrm ?_
  show Code.wp Try.prog _ _ _ _
  refine wp_seq ?_
  refine wp_seq ?_
  refine wp_region_list ?_
  refine W_val hA rfl 13 rfl (by decide) _ _ (R_row hA rfl rfl HH Try.underlying25 (size_hart.trans (by rw [varr_size]))) (fun a hA => ?_)
  refine W_val hA rfl 14 rfl (by decide) _ _ (R_fa hA rfl rfl (fun w => fa_ts _ 1 (by decide) w) _) (fun a hA => ?_)
  refine W_val hA rfl 15 rfl (by decide) _ _ (R_ld (v := .int .u64 (s.on.c)) hA rfl rfl ag_u64 (TsB.cell TT 1 _ rfl)) (fun a hA => ?_)
  refine W_callA hA (by decide) (fun _ _ => by kernel_rfl) (args2 hA rfl rfl) (to_to (k := 1) okf sk.on.c z _) (fun w10 hw a hA => ?_)
  replace HB := HB.trans (hw.mono HB.size)
  replace HH := HH.below hw
  replace TT := TT.below hw
  replace A5 := A5.below hw
  replace A6 := A6.below hw
  clear hw
  refine W_nil ?_
  refine then_nrm ?_
  show Code.wp Try.prog _ _ _ _
  refine wp_block ?_
  refine wp_seq ?_
  refine wp_region_list ?_
  refine W_val hA rfl 37 rfl (by decide) _ _ (R_eqlIT hA rfl rfl rfl false (by decide) _) (fun a hA => ?_)
  refine W_val hA rfl 36 rfl (by decide) _ _ (R_asg hA rfl rfl _) (fun a hA => ?_)
  refine W_nil ?_
  refine then_nrm ?_
  show Code.wp Try.prog _ _ _ _
  refine wp_cond_false (hA.ev (x := .tmp 36) rfl) ?_
  refine wp_seq ?_
  refine wp_region_list ?_
  refine W_val hA rfl 64 rfl (by decide) _ _ (R_eqlIT hA rfl rfl rfl true (by decide) _) (fun a hA => ?_)
  refine W_val hA rfl 63 rfl (by decide) _ _ (R_asg hA rfl rfl _) (fun a hA => ?_)
  refine W_nil ?_
  refine then_nrm ?_
  show Code.wp Try.prog _ _ _ _
  refine wp_cond_true (hA.ev (x := .tmp 63) rfl) ?_
  refine wp_seq ?_
  refine wp_seq ?_
  refine wp_region_list ?_
  refine W_val hA rfl 65 rfl (by decide) _ _ (R_fa hA rfl rfl (fun w => fa_hart _ 2 33 (by decide) rfl w) _) (fun a hA => ?_)
  refine W_val hA rfl 66 rfl (by decide) _ _ (R_ld (v := .int .u8 (k.n 33)) hA rfl rfl ag_u8 A5.p) (fun a hA => ?_)
  refine W_val hA rfl 67 rfl (by decide) _ _ (R_neqBN hA rfl rfl rfl false (by rw [kp]; rfl) _) (fun a hA => ?_)
  refine W_val hA rfl 68 rfl (by decide) _ _ (R_mov hA rfl rfl _) (fun a hA => ?_)
  refine W_gval hA rfl rfl rfl 69 rfl (by decide) _ _ (R_fa hA rfl rfl (fun w => fa_hart _ 3 34 (by decide) rfl w) _) (fun a hA => ?_)
  refine W_gval hA rfl rfl rfl 70 rfl (by decide) _ _ (R_ld (v := .bool false) hA rfl rfl ag_bool (A5.v.trans (by rw [kv]))) (fun a hA => ?_)
  refine W_val hA rfl 71 rfl (by decide) _ _ (R_pick hA rfl rfl rfl _) (fun a hA => ?_)
  refine W_val hA rfl 72 rfl (by decide) _ _ (R_mov hA rfl rfl _) (fun a hA => ?_)
  refine W_gval hA rfl rfl rfl 73 rfl (by decide) _ _ (R_fa hA rfl rfl (fun w => fa_hart _ 24 55 (by decide) rfl w) _) (fun a hA => ?_)
  refine W_gval hA rfl rfl rfl 74 rfl (by decide) _ _ (R_ld (v := .int .u64 (k.n 55)) hA rfl rfl ag_u64 (A5.u 55 (by decide) (by decide))) (fun a hA => ?_)
  refine W_gval hA rfl rfl rfl 75 rfl (by decide) _ _ (R_fa hA rfl rfl (fun w => fa_ts _ 1 (by decide) w) _) (fun a hA => ?_)
  refine W_gval hA rfl rfl rfl 76 rfl (by decide) _ _ (R_ld (v := .int .u64 (s.on.c)) hA rfl rfl ag_u64 (TsB.cell TT 1 _ rfl)) (fun a hA => ?_)
  refine W_gval hA rfl rfl rfl 77 rfl (by decide) _ _ (R_neqUT hA rfl rfl rfl false (by rw [kc]; exact bne_self_eq_false _) _) (fun a hA => ?_)
  refine W_val hA rfl 78 rfl (by decide) _ _ (R_pick hA rfl rfl rfl _) (fun a hA => ?_)
  refine W_nil ?_
  refine then_nrm ?_
  show Code.wp Try.prog _ _ _ _
  refine wp_cond_false (hA.ev (x := .tmp 78) rfl) ?_
  refine wp_skip ?_
  refine then_nrm ?_
  show Code.wp Try.prog _ _ _ _
  refine wp_seq ?_
  refine wp_region_list ?_
  refine W_val hA rfl 79 rfl (by decide) _ _ (R_row hA rfl rfl A5 Try.underlying25 (size_hart.trans (by rw [varr_size]))) (fun a hA => ?_)
  refine W_callA hA (by decide) (fun _ _ => by kernel_rfl) (args1 hA rfl) (sret_to okk hb _) (fun w11 hw a hA => ?_)
  replace HB := HB.trans (hw.mono HB.size)
  replace HH := HH.below hw
  replace TT := TT.below hw
  replace A5 := A5.below hw
  replace A6 := A6.below hw
  clear hw
  refine W_cpH hA rfl rfl rfl rfl rfl A6 (fun w12 hT HN => ?_)
  replace HB := HB.trans (hT.bel _ gA6)
  replace HH := hT.hart HH (by omega)
  replace TT := hT.ts TT (by omega)
  replace A5 := hT.hart A5 (by omega)
  replace A6 := HN
  clear hT HN
  refine W_nil ?_
  refine then_nrm ?_
  show Code.wp Try.prog _ _ _ _
  refine wp_seq ?_
  refine wp_region_list ?_
  refine W_val hA rfl 81 rfl (by decide) _ _ (R_fa hA rfl rfl (fun w => fa_hart _ 7 38 (by decide) rfl w) _) (fun a hA => ?_)
  refine W_val hA rfl 82 rfl (by decide) _ _ (R_ld (v := .int .u64 (b.n 38)) hA rfl rfl ag_u64 (A6.u 38 (by decide) (by decide))) (fun a hA => ?_)
  refine W_val hA rfl 83 rfl (by decide) _ _ (R_shrN hA rfl 1 rfl (okb.n 38).1 (by decide) rfl _) (fun a hA => ?_)
  refine W_val hA rfl 84 rfl (by decide) _ _ (R_and hA rfl rfl rfl _) (fun a hA => ?_)
  refine W_val hA rfl 85 rfl (by decide) _ _ (R_fa hA rfl rfl (fun w => fa_hart _ 7 38 (by decide) rfl w) _) (fun a hA => ?_)
  refine W_val hA rfl 86 rfl (by decide) _ _ (R_ld (v := .int .u64 (f.n 38)) hA rfl rfl ag_u64 (HH.u 38 (by decide) (by decide))) (fun a hA => ?_)
  refine W_val hA rfl 87 rfl (by decide) _ _ (R_shrN hA rfl 1 rfl (okf.n 38).1 (by decide) rfl _) (fun a hA => ?_)
  refine W_val hA rfl 88 rfl (by decide) _ _ (R_and hA rfl rfl rfl _) (fun a hA => ?_)
  refine W_val hA rfl 89 rfl (by decide) _ _ (R_neqUT hA rfl rfl rfl false (and1_ne (okb.n 38) (okf.n 38) 1 hi) _) (fun a hA => ?_)
  refine W_nil ?_
  refine then_nrm ?_
  show Code.wp Try.prog _ _ _ _
  refine wp_cond_false (hA.ev (x := .tmp 89) rfl) ?_
  refine wp_skip ?_
  refine blk_nrm ?_
  refine then_nrm ?_
  show Code.wp Try.prog _ _ _ _
  refine wp_seq ?_
  refine wp_region_list ?_
  refine W_val hA rfl 90 rfl (by decide) _ _ (R_fa hA rfl rfl (fun w => fa_hart _ 0 0 (by decide) rfl w) _) (fun a hA => ?_)
  refine W_val hA rfl 91 rfl (by decide) _ _ (R_ld (v := .int .u64 (b.n 0)) hA rfl rfl ag_u64 (A6.u 0 (by decide) (by decide))) (fun a hA => ?_)
  refine W_val hA rfl 92 rfl (by decide) _ _ (R_fa hA rfl rfl (fun w => fa_hart _ 0 0 (by decide) rfl w) _) (fun a hA => ?_)
  refine W_val hA rfl 93 rfl (by decide) _ _ (R_ld (v := .int .u64 (f.n 0)) hA rfl rfl ag_u64 (HH.u 0 (by decide) (by decide))) (fun a hA => ?_)
  refine W_val hA rfl 94 rfl (by decide) _ _ (R_eqlUT hA rfl rfl rfl true (by rw [b0]; exact beq_self_eq_true _) _) (fun a hA => ?_)
  refine W_val hA rfl 95 rfl (by decide) _ _ (R_mov hA rfl rfl _) (fun a hA => ?_)
  refine W_gval hA rfl rfl rfl 96 rfl (by decide) _ _ (R_fa hA rfl rfl (fun w => fa_hart _ 2 33 (by decide) rfl w) _) (fun a hA => ?_)
  refine W_gval hA rfl rfl rfl 97 rfl (by decide) _ _ (R_ld (v := .int .u8 (b.n 33)) hA rfl rfl ag_u8 A6.p) (fun a hA => ?_)
  refine W_gval hA rfl rfl rfl 98 rfl (by decide) _ _ (R_fa hA rfl rfl (fun w => fa_hart _ 2 33 (by decide) rfl w) _) (fun a hA => ?_)
  refine W_gval hA rfl rfl rfl 99 rfl (by decide) _ _ (R_ld (v := .int .u8 (f.n 33)) hA rfl rfl ag_u8 HH.p) (fun a hA => ?_)
  refine W_gval hA rfl rfl rfl 100 rfl (by decide) _ _ (R_eqlBN hA rfl rfl rfl true (by rw [b33]; exact beq_self_eq_true _) _) (fun a hA => ?_)
  refine W_val hA rfl 101 rfl (by decide) _ _ (R_pick hA rfl rfl rfl _) (fun a hA => ?_)
  refine W_val hA rfl 102 rfl (by decide) _ _ (R_mov hA rfl rfl _) (fun a hA => ?_)
  refine W_gval hA rfl rfl rfl 103 rfl (by decide) _ _ (R_fa hA rfl rfl (fun w => fa_hart _ 3 34 (by decide) rfl w) _) (fun a hA => ?_)
  refine W_gval hA rfl rfl rfl 104 rfl (by decide) _ _ (R_ld (v := .bool (b.v)) hA rfl rfl ag_bool A6.v) (fun a hA => ?_)
  refine W_gval hA rfl rfl rfl 105 rfl (by decide) _ _ (R_fa hA rfl rfl (fun w => fa_hart _ 3 34 (by decide) rfl w) _) (fun a hA => ?_)
  refine W_gval hA rfl rfl rfl 106 rfl (by decide) _ _ (R_ld (v := .bool (f.v)) hA rfl rfl ag_bool HH.v) (fun a hA => ?_)
  refine W_gval hA rfl rfl rfl 107 rfl (by decide) _ _ (R_eqlBT hA rfl rfl rfl true (by rw [bv]; exact beq_self_eq_true _) _) (fun a hA => ?_)
  refine W_val hA rfl 108 rfl (by decide) _ _ (R_pick hA rfl rfl rfl _) (fun a hA => ?_)
  refine W_val hA rfl 109 rfl (by decide) _ _ (R_mov hA rfl rfl _) (fun a hA => ?_)
  refine W_gval hA rfl rfl rfl 110 rfl (by decide) _ _ (R_fa hA rfl rfl (fun w => fa_hart _ 1 1 (by decide) rfl w) _) (fun a hA => ?_)
  refine W_gval hA rfl rfl rfl 111 rfl (by decide) _ _ (R_ldXe hA rfl f bX rfl A6) (fun a hA => ?_)
  refine W_gval hA rfl rfl rfl 112 rfl (by decide) _ _ (R_fa hA rfl rfl (fun w => fa_hart _ 1 1 (by decide) rfl w) _) (fun a hA => ?_)
  refine W_gval hA rfl rfl rfl 113 rfl (by decide) _ _ (R_ldX hA rfl rfl HH) (fun a hA => ?_)
  refine W_gval hA rfl rfl rfl 114 rfl (by decide) _ _ (R_eqlX hA rfl rfl rfl _) (fun a hA => ?_)
  refine W_val hA rfl 115 rfl (by decide) _ _ (R_pick hA rfl rfl rfl _) (fun a hA => ?_)
  refine W_val hA rfl 116 rfl (by decide) _ _ (R_mov hA rfl rfl _) (fun a hA => ?_)
  refine W_gcallB hA rfl rfl (by decide) (fun _ _ => by kernel_rfl) (args0 ) (wakes_any _) (fun w13 hw a hA => ?_)
  replace HB := HB.trans (hw.mono HB.size)
  replace HH := HH.below hw
  replace TT := TT.below hw
  replace A5 := A5.below hw
  replace A6 := A6.below hw
  clear hw
  refine W_val hA rfl 118 rfl (by decide) _ _ (R_pick hA rfl rfl rfl _) (fun a hA => ?_)
  refine W_val hA rfl 4 rfl (by decide) _ _ (R_asg hA rfl rfl _) (fun a hA => ?_)
  refine W_nil ?_
  refine then_nrm ?_
  show Code.wp Try.prog _ _ _ _
  refine wp_ret ?_
  exact ret_tmp (j := 4) (by kernel_rfl) hA (by decide) rfl ⟨rfl, HB⟩
set_option maxHeartbeats 8000000 in
theorem trapBack_2 (t : HS) (s : TS) (f k b : HS) (w : World) (ok : HOk t) (sk : TOk s) (hf : fixZ t = f) (okf : HOk f) (okk : HOk k) (okb : HOk b) (hk : enterZ f s.on = k) (z : toZ f s.on.c = 2) (b0 : b.n 0 = f.n 0) (b33 : b.n 33 = f.n 33) (bv : b.v = f.v) (bX : ∀ i, 1 ≤ i → i ≤ 32 → b.n i = f.n i) (kp : k.n 33 = 1) (kv : k.v = true) (hb : sretZ k = b) (hi : bitZ (b.n 68) 1 = bitZ (f.n 68) 1) : Calls Try.prog 5 #[hartV t, tsV s] w fun e w' => e = .returned (.bool true) ∧ Below w.heap.size w w' := by
  have HB := Below.refl w.heap.size w
  go_enter Try.func5, Try.ntmps5
  refine begin_fr [(1, tsV s), (0, hartV t)] 119 ?_ (fun a hA => ?_)
  · exact FrA.add (FrA.add (FrA.nil (by rfl) (by rfl)) 0 _ (by rfl)) 1 _ (by rfl)
  refine wp_seq ?_
  refine wp_region_list ?_
  refine W_boxH hA rfl 2 rfl (by decide) rfl rfl (fun w1 bHH a hA hb HH gHH => ?_)
  replace gHH := Nat.le_trans HB.size gHH
  replace HB := HB.trans (hb.mono HB.size)
  clear hb
  refine W_boxT hA rfl 3 rfl (by decide) rfl rfl (fun w2 bTT a hA hb TT gTT => ?_)
  have nHHTT : bHH < bTT := by have := HH.lt; omega
  replace gTT := Nat.le_trans HB.size gTT
  replace HB := HB.trans (hb.mono HB.size)
  replace HH := HH.below hb
  clear hb
  refine W_val hA rfl 4 rfl (by decide) _ _ (R_asg hA rfl rfl _) (fun a hA => ?_)
  refine W_nil ?_
  refine then_nrm ?_
  show Code.wp Try.prog _ _ _ _
  refine wp_seq ?_
  refine wp_region_list ?_
  refine W_val hA rfl 7 rfl (by decide) _ _ (R_row hA rfl rfl HH Try.underlying25 (size_hart.trans (by rw [varr_size]))) (fun a hA => ?_)
  refine W_callA hA (by decide) (fun _ _ => by kernel_rfl) (args1 hA rfl) (fix_to ok hf _) (fun w3 hw a hA => ?_)
  replace HB := HB.trans (hw.mono HB.size)
  replace HH := HH.below hw
  replace TT := TT.below hw
  clear hw
  refine W_cpH hA rfl rfl rfl rfl rfl HH (fun w4 hT HN => ?_)
  replace HB := HB.trans (hT.bel _ gHH)
  replace TT := hT.ts TT (by omega)
  replace HH := HN
  clear hT HN
  refine W_nil ?_
  refine then_nrm ?_
  show Code.wp Try.prog _ _ _ _
  refine wp_seq ?_
  refine wp_region_list ?_
  refine W_val hA rfl 9 rfl (by decide) _ _ (R_fa hA rfl rfl (fun w => fa_ts _ 0 (by decide) w) _) (fun a hA => ?_)
  refine W_stT0 hA rfl rfl rfl rfl TT (fun w5 hT HN => ?_)
  replace HB := HB.trans (hT.bel _ gTT)
  replace HH := hT.hart HH (by omega)
  replace TT := HN
  clear hT HN
  refine W_nil ?_
  refine then_nrm ?_
  show Code.wp Try.prog _ _ _ _
  refine wp_seq ?_
  refine wp_region_list ?_
  refine W_val hA rfl 10 rfl (by decide) _ _ (R_row hA rfl rfl HH Try.underlying25 (size_hart.trans (by rw [varr_size]))) (fun a hA => ?_)
  refine W_val hA rfl 11 rfl (by decide) _ _ (R_row hA rfl rfl TT Try.underlying27 (size_ts _)) (fun a hA => ?_)
  refine W_callA hA (by decide) (fun _ _ => by kernel_rfl) (args2 hA rfl rfl) (enter_to okf sk.on hk _) (fun w6 hw a hA => ?_)
  replace HB := HB.trans (hw.mono HB.size)
  replace HH := HH.below hw
  replace TT := TT.below hw
  clear hw
  refine W_allocH hA rfl 5 rfl (by decide) rfl (fun w7 bA5 a hA hb A5 gA5 => ?_)
  have nHHA5 : bHH < bA5 := by have := HH.lt; omega
  have nTTA5 : bTT < bA5 := by have := TT.lt; omega
  replace gA5 := Nat.le_trans HB.size gA5
  replace HB := HB.trans (hb.mono HB.size)
  replace HH := HH.below hb
  replace TT := TT.below hb
  clear hb
  refine W_cpH hA rfl rfl rfl rfl rfl A5 (fun w8 hT HN => ?_)
  replace HB := HB.trans (hT.bel _ gA5)
  replace HH := hT.hart HH (by omega)
  replace TT := hT.ts TT (by omega)
  replace A5 := HN
  clear hT HN
  refine W_nil ?_
  refine then_nrm ?_
  show Code.wp Try.prog _ _ _ _
  refine wp_seq ?_
  refine wp_region_list ?_
  refine W_allocH hA rfl 6 rfl (by decide) rfl (fun w9 bA6 a hA hb A6 gA6 => ?_)
  have nHHA6 : bHH < bA6 := by have := HH.lt; omega
  have nTTA6 : bTT < bA6 := by have := TT.lt; omega
  have nA5A6 : bA5 < bA6 := by have := A5.lt; omega
  replace gA6 := Nat.le_trans HB.size gA6
  replace HB := HB.trans (hb.mono HB.size)
  replace HH := HH.below hb
  replace TT := TT.below hb
  replace A5 := A5.below hb
  clear hb
  refine W_nil ?_
  refine then_nrm ?_
  show Code.wp Try.prog _ _ _ _
  refine wp_seq ?_
  refine wp_seq ?_
  refine wp_region_list ?_
  refine W_val hA rfl 13 rfl (by decide) _ _ (R_row hA rfl rfl HH Try.underlying25 (size_hart.trans (by rw [varr_size]))) (fun a hA => ?_)
  refine W_val hA rfl 14 rfl (by decide) _ _ (R_fa hA rfl rfl (fun w => fa_ts _ 1 (by decide) w) _) (fun a hA => ?_)
  refine W_val hA rfl 15 rfl (by decide) _ _ (R_ld (v := .int .u64 (s.on.c)) hA rfl rfl ag_u64 (TsB.cell TT 1 _ rfl)) (fun a hA => ?_)
  refine W_callA hA (by decide) (fun _ _ => by kernel_rfl) (args2 hA rfl rfl) (to_to (k := 2) okf sk.on.c z _) (fun w10 hw a hA => ?_)
  replace HB := HB.trans (hw.mono HB.size)
  replace HH := HH.below hw
  replace TT := TT.below hw
  replace A5 := A5.below hw
  replace A6 := A6.below hw
  clear hw
  refine W_nil ?_
  refine then_nrm ?_
  show Code.wp Try.prog _ _ _ _
  refine wp_block ?_
  refine wp_seq ?_
  refine wp_region_list ?_
  refine W_val hA rfl 37 rfl (by decide) _ _ (R_eqlIT hA rfl rfl rfl false (by decide) _) (fun a hA => ?_)
  refine W_val hA rfl 36 rfl (by decide) _ _ (R_asg hA rfl rfl _) (fun a hA => ?_)
  refine W_nil ?_
  refine then_nrm ?_
  show Code.wp Try.prog _ _ _ _
  refine wp_cond_false (hA.ev (x := .tmp 36) rfl) ?_
  refine wp_seq ?_
  refine wp_region_list ?_
  refine W_val hA rfl 64 rfl (by decide) _ _ (R_eqlIT hA rfl rfl rfl false (by decide) _) (fun a hA => ?_)
  refine W_val hA rfl 63 rfl (by decide) _ _ (R_asg hA rfl rfl _) (fun a hA => ?_)
  refine W_nil ?_
  refine then_nrm ?_
  show Code.wp Try.prog _ _ _ _
  refine wp_cond_false (hA.ev (x := .tmp 63) rfl) ?_
  refine wp_seq ?_
  refine wp_seq ?_
  refine wp_region_list ?_
  refine W_val hA rfl 17 rfl (by decide) _ _ (R_fa hA rfl rfl (fun w => fa_hart _ 2 33 (by decide) rfl w) _) (fun a hA => ?_)
  refine W_val hA rfl 18 rfl (by decide) _ _ (R_ld (v := .int .u8 (k.n 33)) hA rfl rfl ag_u8 A5.p) (fun a hA => ?_)
  refine W_val hA rfl 19 rfl (by decide) _ _ (R_neqBN hA rfl rfl rfl false (by rw [kp]; rfl) _) (fun a hA => ?_)
  refine W_val hA rfl 20 rfl (by decide) _ _ (R_mov hA rfl rfl _) (fun a hA => ?_)
  refine W_gval hA rfl rfl rfl 21 rfl (by decide) _ _ (R_fa hA rfl rfl (fun w => fa_hart _ 3 34 (by decide) rfl w) _) (fun a hA => ?_)
  refine W_gval hA rfl rfl rfl 22 rfl (by decide) _ _ (R_ld (v := .bool true) hA rfl rfl ag_bool (A5.v.trans (by rw [kv]))) (fun a hA => ?_)
  refine W_gval hA rfl rfl rfl 23 rfl (by decide) _ _ (R_not hA rfl rfl _) (fun a hA => ?_)
  refine W_val hA rfl 24 rfl (by decide) _ _ (R_pick hA rfl rfl rfl _) (fun a hA => ?_)
  refine W_nil ?_
  refine then_nrm ?_
  show Code.wp Try.prog _ _ _ _
  refine wp_cond_false (hA.ev (x := .tmp 24) rfl) ?_
  refine wp_skip ?_
  refine then_nrm ?_
  show Code.wp Try.prog _ _ _ _
  refine wp_seq ?_
  refine wp_region_list ?_
  refine W_val hA rfl 25 rfl (by decide) _ _ (R_row hA rfl rfl A5 Try.underlying25 (size_hart.trans (by rw [varr_size]))) (fun a hA => ?_)
  refine W_callA hA (by decide) (fun _ _ => by kernel_rfl) (args1 hA rfl) (sret_to okk hb _) (fun w11 hw a hA => ?_)
  replace HB := HB.trans (hw.mono HB.size)
  replace HH := HH.below hw
  replace TT := TT.below hw
  replace A5 := A5.below hw
  replace A6 := A6.below hw
  clear hw
  refine W_cpH hA rfl rfl rfl rfl rfl A6 (fun w12 hT HN => ?_)
  replace HB := HB.trans (hT.bel _ gA6)
  replace HH := hT.hart HH (by omega)
  replace TT := hT.ts TT (by omega)
  replace A5 := hT.hart A5 (by omega)
  replace A6 := HN
  clear hT HN
  refine W_nil ?_
  refine then_nrm ?_
  show Code.wp Try.prog _ _ _ _
  refine wp_seq ?_
  refine wp_region_list ?_
  refine W_val hA rfl 27 rfl (by decide) _ _ (R_fa hA rfl rfl (fun w => fa_hart _ 37 68 (by decide) rfl w) _) (fun a hA => ?_)
  refine W_val hA rfl 28 rfl (by decide) _ _ (R_ld (v := .int .u64 (b.n 68)) hA rfl rfl ag_u64 (A6.u 68 (by decide) (by decide))) (fun a hA => ?_)
  refine W_val hA rfl 29 rfl (by decide) _ _ (R_shrN hA rfl 1 rfl (okb.n 68).1 (by decide) rfl _) (fun a hA => ?_)
  refine W_val hA rfl 30 rfl (by decide) _ _ (R_and hA rfl rfl rfl _) (fun a hA => ?_)
  refine W_val hA rfl 31 rfl (by decide) _ _ (R_fa hA rfl rfl (fun w => fa_hart _ 37 68 (by decide) rfl w) _) (fun a hA => ?_)
  refine W_val hA rfl 32 rfl (by decide) _ _ (R_ld (v := .int .u64 (f.n 68)) hA rfl rfl ag_u64 (HH.u 68 (by decide) (by decide))) (fun a hA => ?_)
  refine W_val hA rfl 33 rfl (by decide) _ _ (R_shrN hA rfl 1 rfl (okf.n 68).1 (by decide) rfl _) (fun a hA => ?_)
  refine W_val hA rfl 34 rfl (by decide) _ _ (R_and hA rfl rfl rfl _) (fun a hA => ?_)
  refine W_val hA rfl 35 rfl (by decide) _ _ (R_neqUT hA rfl rfl rfl false (and1_ne (okb.n 68) (okf.n 68) 1 hi) _) (fun a hA => ?_)
  refine W_nil ?_
  refine then_nrm ?_
  show Code.wp Try.prog _ _ _ _
  refine wp_cond_false (hA.ev (x := .tmp 35) rfl) ?_
  refine wp_skip ?_
  refine blk_nrm ?_
  refine then_nrm ?_
  show Code.wp Try.prog _ _ _ _
  refine wp_seq ?_
  refine wp_region_list ?_
  refine W_val hA rfl 90 rfl (by decide) _ _ (R_fa hA rfl rfl (fun w => fa_hart _ 0 0 (by decide) rfl w) _) (fun a hA => ?_)
  refine W_val hA rfl 91 rfl (by decide) _ _ (R_ld (v := .int .u64 (b.n 0)) hA rfl rfl ag_u64 (A6.u 0 (by decide) (by decide))) (fun a hA => ?_)
  refine W_val hA rfl 92 rfl (by decide) _ _ (R_fa hA rfl rfl (fun w => fa_hart _ 0 0 (by decide) rfl w) _) (fun a hA => ?_)
  refine W_val hA rfl 93 rfl (by decide) _ _ (R_ld (v := .int .u64 (f.n 0)) hA rfl rfl ag_u64 (HH.u 0 (by decide) (by decide))) (fun a hA => ?_)
  refine W_val hA rfl 94 rfl (by decide) _ _ (R_eqlUT hA rfl rfl rfl true (by rw [b0]; exact beq_self_eq_true _) _) (fun a hA => ?_)
  refine W_val hA rfl 95 rfl (by decide) _ _ (R_mov hA rfl rfl _) (fun a hA => ?_)
  refine W_gval hA rfl rfl rfl 96 rfl (by decide) _ _ (R_fa hA rfl rfl (fun w => fa_hart _ 2 33 (by decide) rfl w) _) (fun a hA => ?_)
  refine W_gval hA rfl rfl rfl 97 rfl (by decide) _ _ (R_ld (v := .int .u8 (b.n 33)) hA rfl rfl ag_u8 A6.p) (fun a hA => ?_)
  refine W_gval hA rfl rfl rfl 98 rfl (by decide) _ _ (R_fa hA rfl rfl (fun w => fa_hart _ 2 33 (by decide) rfl w) _) (fun a hA => ?_)
  refine W_gval hA rfl rfl rfl 99 rfl (by decide) _ _ (R_ld (v := .int .u8 (f.n 33)) hA rfl rfl ag_u8 HH.p) (fun a hA => ?_)
  refine W_gval hA rfl rfl rfl 100 rfl (by decide) _ _ (R_eqlBN hA rfl rfl rfl true (by rw [b33]; exact beq_self_eq_true _) _) (fun a hA => ?_)
  refine W_val hA rfl 101 rfl (by decide) _ _ (R_pick hA rfl rfl rfl _) (fun a hA => ?_)
  refine W_val hA rfl 102 rfl (by decide) _ _ (R_mov hA rfl rfl _) (fun a hA => ?_)
  refine W_gval hA rfl rfl rfl 103 rfl (by decide) _ _ (R_fa hA rfl rfl (fun w => fa_hart _ 3 34 (by decide) rfl w) _) (fun a hA => ?_)
  refine W_gval hA rfl rfl rfl 104 rfl (by decide) _ _ (R_ld (v := .bool (b.v)) hA rfl rfl ag_bool A6.v) (fun a hA => ?_)
  refine W_gval hA rfl rfl rfl 105 rfl (by decide) _ _ (R_fa hA rfl rfl (fun w => fa_hart _ 3 34 (by decide) rfl w) _) (fun a hA => ?_)
  refine W_gval hA rfl rfl rfl 106 rfl (by decide) _ _ (R_ld (v := .bool (f.v)) hA rfl rfl ag_bool HH.v) (fun a hA => ?_)
  refine W_gval hA rfl rfl rfl 107 rfl (by decide) _ _ (R_eqlBT hA rfl rfl rfl true (by rw [bv]; exact beq_self_eq_true _) _) (fun a hA => ?_)
  refine W_val hA rfl 108 rfl (by decide) _ _ (R_pick hA rfl rfl rfl _) (fun a hA => ?_)
  refine W_val hA rfl 109 rfl (by decide) _ _ (R_mov hA rfl rfl _) (fun a hA => ?_)
  refine W_gval hA rfl rfl rfl 110 rfl (by decide) _ _ (R_fa hA rfl rfl (fun w => fa_hart _ 1 1 (by decide) rfl w) _) (fun a hA => ?_)
  refine W_gval hA rfl rfl rfl 111 rfl (by decide) _ _ (R_ldXe hA rfl f bX rfl A6) (fun a hA => ?_)
  refine W_gval hA rfl rfl rfl 112 rfl (by decide) _ _ (R_fa hA rfl rfl (fun w => fa_hart _ 1 1 (by decide) rfl w) _) (fun a hA => ?_)
  refine W_gval hA rfl rfl rfl 113 rfl (by decide) _ _ (R_ldX hA rfl rfl HH) (fun a hA => ?_)
  refine W_gval hA rfl rfl rfl 114 rfl (by decide) _ _ (R_eqlX hA rfl rfl rfl _) (fun a hA => ?_)
  refine W_val hA rfl 115 rfl (by decide) _ _ (R_pick hA rfl rfl rfl _) (fun a hA => ?_)
  refine W_val hA rfl 116 rfl (by decide) _ _ (R_mov hA rfl rfl _) (fun a hA => ?_)
  refine W_gcallB hA rfl rfl (by decide) (fun _ _ => by kernel_rfl) (args0 ) (wakes_any _) (fun w13 hw a hA => ?_)
  replace HB := HB.trans (hw.mono HB.size)
  replace HH := HH.below hw
  replace TT := TT.below hw
  replace A5 := A5.below hw
  replace A6 := A6.below hw
  clear hw
  refine W_val hA rfl 118 rfl (by decide) _ _ (R_pick hA rfl rfl rfl _) (fun a hA => ?_)
  refine W_val hA rfl 4 rfl (by decide) _ _ (R_asg hA rfl rfl _) (fun a hA => ?_)
  refine W_nil ?_
  refine then_nrm ?_
  show Code.wp Try.prog _ _ _ _
  refine wp_ret ?_
  exact ret_tmp (j := 4) (by kernel_rfl) hA (by decide) rfl ⟨rfl, HB⟩
theorem notM {t : HS} (h : Lgl t) {c : Int} (z : toZ t c ≠ 0) : t.n 33 = 0 ∨ t.n 33 = 1 := by
  rcases h.priv with q | q | q
  · exact .inl q
  · exact .inr q
  · exact absurd (toZ_machine q) z
theorem trapBack_walk (t : HS) (s : TS) (w : World) (ok : HOk t) (sk : TOk s) : Calls Try.prog 5 #[hartV t, tsV s] w fun e w' => e = .returned (.bool true) ∧ Below w.heap.size w w' := by
  have lg := lgl_fix ok
  have okf := ok_fix ok
  generalize hf : fixZ t = f at lg okf
  have hl := toZ_lt f s.on.c
  rcases (show toZ f s.on.c = 0 ∨ toZ f s.on.c = 1 ∨ toZ f s.on.c = 2 by omega) with z | z | z
  · obtain ⟨q0, q1, q2, q3, q4⟩ := back_m lg s.on.c s.on.tv s.on.tv2 s.on.ti s.on.g
    exact trapBack_0 t s f _ _ w ok sk hf okf (ok_enterM okf sk.on) (ok_mret (ok_enterM okf sk.on)) (enterZ_m rfl z) z q0 q1 q2 q4 (by unfold enterM HS.mode; simp [HS.put]) rfl (by unfold enterM HS.mode; simp [HS.put]) rfl q3
  · have hp := notM lg (c := s.on.c) (by omega)
    obtain ⟨q0, q1, q2, q3, q4⟩ := back_h lg hp s.on.c s.on.tv s.on.tv2 s.on.ti s.on.g
    exact trapBack_1 t s f _ _ w ok sk hf okf (ok_enterH okf sk.on) (ok_sret (ok_enterH okf sk.on)) (enterZ_h rfl z) z q0 q1 q2 q4 (by unfold enterH HS.mode; simp [HS.put]) rfl (by unfold enterH HS.mode; simp [HS.put]) rfl q3
  · have hp := notM lg (c := s.on.c) (by omega)
    obtain ⟨q0, q1, q2, q3, q4⟩ := back_g lg hp (toZ_guest z) s.on.c s.on.tv
    exact trapBack_2 t s f _ _ w ok sk hf okf (ok_enterG okf sk.on) (ok_sret (ok_enterG okf sk.on)) (enterZ_g rfl z) z q0 q1 q2 q4 (by unfold enterG HS.mode; simp [HS.put]) rfl rfl q3
end Go.Proofs.Ytkfhpmleelmcfaa
