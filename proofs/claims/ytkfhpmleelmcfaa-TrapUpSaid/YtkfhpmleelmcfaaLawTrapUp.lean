/- Layer 14: the walk of TrapUp (written by gen_trf.py by walkf.py). -/
import Derived.Test.YtkfhpmleelmcfaaTrF
namespace Go.Proofs.Ytkfhpmleelmcfaa
open Go.RowKit
set_option linter.unusedVariables false
set_option maxRecDepth 100000

set_option maxHeartbeats 8000000 in
theorem trapUp_0n (t : HS) (s : TS) (f k : HS) (w : World) (ok : HOk t) (sk : TOk s) (hf : fixZ t = f) (okf : HOk f) (okk : HOk k) (lgk : Lgl k) (his : s.is = false) (hk : enterZ f s = k) (z : toZ f s.c = 0) (hkf : k = f) : Calls Try.prog 6 #[hartV t, tsV s] w fun e w' => e = .returned (.bool true) ∧ Below w.heap.size w w' := by
  have HB := Below.refl w.heap.size w
  go_enter Try.func6, Try.ntmps6
  refine begin_fr [(1, tsV s), (0, hartV t)] 60 ?_ (fun a hA => ?_)
  · exact FrA.add (FrA.add (FrA.nil (by rfl) (by rfl)) 0 _ (by rfl)) 1 _ (by rfl)
  refine wp_seq ?_
  refine wp_region_list ?_
  refine W_boxH hA rfl 2 rfl (by decide) rfl rfl (fun w1 bHH a hA hb HH gHH => ?_)
  replace gHH := Nat.le_trans HB.size gHH
  replace HB := HB.trans (hb.mono HB.size)
  clear hb
  refine W_boxT hA rfl 3 rfl (by decide) rfl rfl (fun w2 bTT a hA hb TT gTT => ?_)
  have nHHTT : bHH < bTT := by have := HH.lt; omega
  replace gTT := Nat.le_trans HB.size gTT
  replace HB := HB.trans (hb.mono HB.size)
  replace HH := HH.below hb
  clear hb
  refine W_val hA rfl 4 rfl (by decide) _ _ (R_asg hA rfl rfl _) (fun a hA => ?_)
  refine W_nil ?_
  refine then_nrm ?_
  show Code.wp Try.prog _ _ _ _
  refine wp_seq ?_
  refine wp_region_list ?_
  refine W_val hA rfl 9 rfl (by decide) _ _ (R_row hA rfl rfl HH Try.underlying25 (size_hart.trans (by rw [varr_size]))) (fun a hA => ?_)
  refine W_callA hA (by decide) (fun _ _ => by kernel_rfl) (args1 hA rfl) (fix_to ok hf _) (fun w3 hw a hA => ?_)
  replace HB := HB.trans (hw.mono HB.size)
  replace HH := HH.below hw
  replace TT := TT.below hw
  clear hw
  refine W_cpH hA rfl rfl rfl rfl rfl HH (fun w4 hT HN => ?_)
  replace HB := HB.trans (hT.bel _ gHH)
  replace TT := hT.ts TT (by omega)
  replace HH := HN
  clear hT HN
  refine W_nil ?_
  refine then_nrm ?_
  show Code.wp Try.prog _ _ _ _
  refine wp_seq ?_
  refine wp_region_list ?_
  refine W_val hA rfl 11 rfl (by decide) _ _ (R_row hA rfl rfl HH Try.underlying25 (size_hart.trans (by rw [varr_size]))) (fun a hA => ?_)
  refine W_val hA rfl 12 rfl (by decide) _ _ (R_fa hA rfl rfl (fun w => fa_ts _ 1 (by decide) w) _) (fun a hA => ?_)
  refine W_val hA rfl 13 rfl (by decide) _ _ (R_ld (v := .int .u64 (s.c)) hA rfl rfl ag_u64 (TsB.cell TT 1 _ rfl)) (fun a hA => ?_)
  refine W_callA hA (by decide) (fun _ _ => by kernel_rfl) (args2 hA rfl rfl) (to_to (k := 0) okf sk.c z _) (fun w5 hw a hA => ?_)
  replace HB := HB.trans (hw.mono HB.size)
  replace HH := HH.below hw
  replace TT := TT.below hw
  clear hw
  refine W_val hA rfl 5 rfl (by decide) _ _ (R_asg hA rfl rfl _) (fun a hA => ?_)
  refine W_nil ?_
  refine then_nrm ?_
  show Code.wp Try.prog _ _ _ _
  refine wp_seq ?_
  refine wp_seq ?_
  refine wp_region_list ?_
  refine W_val hA rfl 15 rfl (by decide) _ _ (R_fa hA rfl rfl (fun w => fa_hart _ 2 33 (by decide) rfl w) _) (fun a hA => ?_)
  refine W_val hA rfl 16 rfl (by decide) _ _ (R_ld (v := .int .u8 (f.n 33)) hA rfl rfl ag_u8 HH.p) (fun a hA => ?_)
  refine W_val hA rfl 17 rfl (by decide) _ _ (R_eqlB hA rfl rfl rfl _) (fun a hA => ?_)
  refine W_val hA rfl 18 rfl (by decide) _ _ (R_mov hA rfl rfl _) (fun a hA => ?_)
  refine W_split hA 18 rfl (fun c1 hA => ?_) (fun c1 hA => ?_)
  · skip
    refine W_gval hA rfl rfl rfl 19 rfl (by decide) _ _ (R_mov hA rfl rfl _) (fun a hA => ?_)
    refine W_gval hA rfl rfl rfl 20 rfl (by decide) _ _ (R_neqIT hA rfl rfl rfl false (by decide) _) (fun a hA => ?_)
    refine W_val hA rfl 21 rfl (by decide) _ _ (R_pick hA rfl rfl rfl _) (fun a hA => ?_)
    refine W_val hA rfl 22 rfl (by decide) _ _ (R_mov hA rfl rfl _) (fun a hA => ?_)
    refine W_gval hA rfl rfl rfl 23 rfl (by decide) _ _ (R_fa hA rfl rfl (fun w => fa_hart _ 3 34 (by decide) rfl w) _) (fun a hA => ?_)
    refine W_gval hA rfl rfl rfl 24 rfl (by decide) _ _ (R_ld (v := .bool (f.v)) hA rfl rfl ag_bool HH.v) (fun a hA => ?_)
    refine W_gval hA rfl rfl rfl 25 rfl (by decide) _ _ (R_not hA rfl rfl _) (fun a hA => ?_)
    refine W_gval hA rfl rfl rfl 26 rfl (by decide) _ _ (R_mov hA rfl rfl _) (fun a hA => ?_)
    refine W_split hA 26 rfl (fun c2 hA => ?_) (fun c2 hA => ?_)
    · skip
      refine W_gval hA rfl rfl rfl 27 rfl (by decide) _ _ (R_mov hA rfl rfl _) (fun a hA => ?_)
      refine W_gval hA rfl rfl rfl 28 rfl (by decide) _ _ (R_eqlIT hA rfl rfl rfl false (by decide) _) (fun a hA => ?_)
      refine W_gval hA rfl rfl rfl 29 rfl (by decide) _ _ (R_pick hA rfl rfl rfl _) (fun a hA => ?_)
      refine W_val hA rfl 30 rfl (by decide) _ _ (R_pick hA rfl rfl rfl _) (fun a hA => ?_)
      refine W_nil ?_
      refine then_nrm ?_
      show Code.wp Try.prog _ _ _ _
      refine wp_cond_false (hA.ev (x := .tmp 30) rfl) ?_
      refine wp_skip ?_
      refine then_nrm ?_
      show Code.wp Try.prog _ _ _ _
      refine wp_seq ?_
      refine wp_region_list ?_
      refine W_val hA rfl 31 rfl (by decide) _ _ (R_row hA rfl rfl HH Try.underlying25 (size_hart.trans (by rw [varr_size]))) (fun a hA => ?_)
      refine W_val hA rfl 32 rfl (by decide) _ _ (R_row hA rfl rfl TT Try.underlying27 (size_ts _)) (fun a hA => ?_)
      refine W_callA hA (by decide) (fun _ _ => by kernel_rfl) (args2 hA rfl rfl) (enter_to okf sk hk _) (fun w6 hw a hA => ?_)
      replace HB := HB.trans (hw.mono HB.size)
      replace HH := HH.below hw
      replace TT := TT.below hw
      clear hw
      refine W_allocH hA rfl 6 rfl (by decide) rfl (fun w7 bA6 a hA hb A6 gA6 => ?_)
      have nHHA6 : bHH < bA6 := by have := HH.lt; omega
      have nTTA6 : bTT < bA6 := by have := TT.lt; omega
      replace gA6 := Nat.le_trans HB.size gA6
      replace HB := HB.trans (hb.mono HB.size)
      replace HH := HH.below hb
      replace TT := TT.below hb
      clear hb
      refine W_cpH hA rfl rfl rfl rfl rfl A6 (fun w8 hT HN => ?_)
      replace HB := HB.trans (hT.bel _ gA6)
      replace HH := hT.hart HH (by omega)
      replace TT := hT.ts TT (by omega)
      replace A6 := HN
      clear hT HN
      refine W_nil ?_
      refine then_nrm ?_
      show Code.wp Try.prog _ _ _ _
      refine wp_seq ?_
      refine wp_seq ?_
      refine wp_region_list ?_
      refine W_val hA rfl 34 rfl (by decide) _ _ (R_fa hA rfl rfl (fun w => fa_ts _ 0 (by decide) w) _) (fun a hA => ?_)
      refine W_val hA rfl 35 rfl (by decide) _ _ (R_ld (v := .bool false) hA rfl rfl ag_bool ((TsB.cell TT 0 (.bool s.is) rfl).trans (by rw [his]))) (fun a hA => ?_)
      refine W_val hA rfl 36 rfl (by decide) _ _ (R_not hA rfl rfl _) (fun a hA => ?_)
      refine W_nil ?_
      refine then_nrm ?_
      show Code.wp Try.prog _ _ _ _
      refine wp_cond_true (hA.ev (x := .tmp 36) rfl) ?_
      refine wp_seq ?_
      refine wp_region_list ?_
      refine W_val hA rfl 37 rfl (by decide) _ _ (R_row hA rfl rfl A6 Try.underlying25 (size_hart.trans (by rw [varr_size]))) (fun a hA => ?_)
      refine W_val hA rfl 38 rfl (by decide) _ _ (R_row hA rfl rfl HH Try.underlying25 (size_hart.trans (by rw [varr_size]))) (fun a hA => ?_)
      refine W_val hA rfl 39 rfl (by decide) _ _ (R_eqlH hA rfl rfl rfl true (hkf ▸ eqH_refl _) _) (fun a hA => ?_)
      refine W_val hA rfl 40 rfl (by decide) _ _ (R_mov hA rfl rfl _) (fun a hA => ?_)
      refine W_gcallB hA rfl rfl (by decide) (fun _ _ => by kernel_rfl) (args0 ) (wakes_any _) (fun w9 hw a hA => ?_)
      replace HB := HB.trans (hw.mono HB.size)
      replace HH := HH.below hw
      replace TT := TT.below hw
      replace A6 := A6.below hw
      clear hw
      refine W_val hA rfl 42 rfl (by decide) _ _ (R_pick hA rfl rfl rfl _) (fun a hA => ?_)
      refine W_val hA rfl 4 rfl (by decide) _ _ (R_asg hA rfl rfl _) (fun a hA => ?_)
      refine W_nil ?_
      refine then_nrm ?_
      show Code.wp Try.prog _ _ _ _
      refine wp_ret ?_
      refine then_ret ?_
      exact ret_tmp (j := 4) (by kernel_rfl) hA (by decide) rfl ⟨rfl, HB⟩
    refine W_gskip hA rfl rfl rfl 27 rfl (by decide) (fun a hA => ?_)
    refine W_gskip hA rfl rfl rfl 28 rfl (by decide) (fun a hA => ?_)
    refine W_gval hA rfl rfl rfl 29 rfl (by decide) _ _ (R_pick hA rfl rfl rfl _) (fun a hA => ?_)
    refine W_val hA rfl 30 rfl (by decide) _ _ (R_pick hA rfl rfl rfl _) (fun a hA => ?_)
    refine W_nil ?_
    refine then_nrm ?_
    show Code.wp Try.prog _ _ _ _
    refine wp_cond_false (hA.ev (x := .tmp 30) rfl) ?_
    refine wp_skip ?_
    refine then_nrm ?_
    show Code.wp Try.prog _ _ _ _
    refine wp_seq ?_
    refine wp_region_list ?_
    refine W_val hA rfl 31 rfl (by decide) _ _ (R_row hA rfl rfl HH Try.underlying25 (size_hart.trans (by rw [varr_size]))) (fun a hA => ?_)
    refine W_val hA rfl 32 rfl (by decide) _ _ (R_row hA rfl rfl TT Try.underlying27 (size_ts _)) (fun a hA => ?_)
    refine W_callA hA (by decide) (fun _ _ => by kernel_rfl) (args2 hA rfl rfl) (enter_to okf sk hk _) (fun w10 hw a hA => ?_)
    replace HB := HB.trans (hw.mono HB.size)
    replace HH := HH.below hw
    replace TT := TT.below hw
    clear hw
    refine W_allocH hA rfl 6 rfl (by decide) rfl (fun w11 bA6 a hA hb A6 gA6 => ?_)
    have nHHA6 : bHH < bA6 := by have := HH.lt; omega
    have nTTA6 : bTT < bA6 := by have := TT.lt; omega
    replace gA6 := Nat.le_trans HB.size gA6
    replace HB := HB.trans (hb.mono HB.size)
    replace HH := HH.below hb
    replace TT := TT.below hb
    clear hb
    refine W_cpH hA rfl rfl rfl rfl rfl A6 (fun w12 hT HN => ?_)
    replace HB := HB.trans (hT.bel _ gA6)
    replace HH := hT.hart HH (by omega)
    replace TT := hT.ts TT (by omega)
    replace A6 := HN
    clear hT HN
    refine W_nil ?_
    refine then_nrm ?_
    show Code.wp Try.prog _ _ _ _
    refine wp_seq ?_
    refine wp_seq ?_
    refine wp_region_list ?_
    refine W_val hA rfl 34 rfl (by decide) _ _ (R_fa hA rfl rfl (fun w => fa_ts _ 0 (by decide) w) _) (fun a hA => ?_)
    refine W_val hA rfl 35 rfl (by decide) _ _ (R_ld (v := .bool false) hA rfl rfl ag_bool ((TsB.cell TT 0 (.bool s.is) rfl).trans (by rw [his]))) (fun a hA => ?_)
    refine W_val hA rfl 36 rfl (by decide) _ _ (R_not hA rfl rfl _) (fun a hA => ?_)
    refine W_nil ?_
    refine then_nrm ?_
    show Code.wp Try.prog _ _ _ _
    refine wp_cond_true (hA.ev (x := .tmp 36) rfl) ?_
    refine wp_seq ?_
    refine wp_region_list ?_
    refine W_val hA rfl 37 rfl (by decide) _ _ (R_row hA rfl rfl A6 Try.underlying25 (size_hart.trans (by rw [varr_size]))) (fun a hA => ?_)
    refine W_val hA rfl 38 rfl (by decide) _ _ (R_row hA rfl rfl HH Try.underlying25 (size_hart.trans (by rw [varr_size]))) (fun a hA => ?_)
    refine W_val hA rfl 39 rfl (by decide) _ _ (R_eqlH hA rfl rfl rfl true (hkf ▸ eqH_refl _) _) (fun a hA => ?_)
    refine W_val hA rfl 40 rfl (by decide) _ _ (R_mov hA rfl rfl _) (fun a hA => ?_)
    refine W_gcallB hA rfl rfl (by decide) (fun _ _ => by kernel_rfl) (args0 ) (wakes_any _) (fun w13 hw a hA => ?_)
    replace HB := HB.trans (hw.mono HB.size)
    replace HH := HH.below hw
    replace TT := TT.below hw
    replace A6 := A6.below hw
    clear hw
    refine W_val hA rfl 42 rfl (by decide) _ _ (R_pick hA rfl rfl rfl _) (fun a hA => ?_)
    refine W_val hA rfl 4 rfl (by decide) _ _ (R_asg hA rfl rfl _) (fun a hA => ?_)
    refine W_nil ?_
    refine then_nrm ?_
    show Code.wp Try.prog _ _ _ _
    refine wp_ret ?_
    refine then_ret ?_
    exact ret_tmp (j := 4) (by kernel_rfl) hA (by decide) rfl ⟨rfl, HB⟩
  refine W_gskip hA rfl rfl rfl 19 rfl (by decide) (fun a hA => ?_)
  refine W_gskip hA rfl rfl rfl 20 rfl (by decide) (fun a hA => ?_)
  refine W_val hA rfl 21 rfl (by decide) _ _ (R_pick hA rfl rfl rfl _) (fun a hA => ?_)
  refine W_val hA rfl 22 rfl (by decide) _ _ (R_mov hA rfl rfl _) (fun a hA => ?_)
  refine W_gval hA rfl rfl rfl 23 rfl (by decide) _ _ (R_fa hA rfl rfl (fun w => fa_hart _ 3 34 (by decide) rfl w) _) (fun a hA => ?_)
  refine W_gval hA rfl rfl rfl 24 rfl (by decide) _ _ (R_ld (v := .bool (f.v)) hA rfl rfl ag_bool HH.v) (fun a hA => ?_)
  refine W_gval hA rfl rfl rfl 25 rfl (by decide) _ _ (R_not hA rfl rfl _) (fun a hA => ?_)
  refine W_gval hA rfl rfl rfl 26 rfl (by decide) _ _ (R_mov hA rfl rfl _) (fun a hA => ?_)
  refine W_split hA 26 rfl (fun c3 hA => ?_) (fun c3 hA => ?_)
  · skip
    refine W_gval hA rfl rfl rfl 27 rfl (by decide) _ _ (R_mov hA rfl rfl _) (fun a hA => ?_)
    refine W_gval hA rfl rfl rfl 28 rfl (by decide) _ _ (R_eqlIT hA rfl rfl rfl false (by decide) _) (fun a hA => ?_)
    refine W_gval hA rfl rfl rfl 29 rfl (by decide) _ _ (R_pick hA rfl rfl rfl _) (fun a hA => ?_)
    refine W_val hA rfl 30 rfl (by decide) _ _ (R_pick hA rfl rfl rfl _) (fun a hA => ?_)
    refine W_nil ?_
    refine then_nrm ?_
    show Code.wp Try.prog _ _ _ _
    refine wp_cond_false (hA.ev (x := .tmp 30) rfl) ?_
    refine wp_skip ?_
    refine then_nrm ?_
    show Code.wp Try.prog _ _ _ _
    refine wp_seq ?_
    refine wp_region_list ?_
    refine W_val hA rfl 31 rfl (by decide) _ _ (R_row hA rfl rfl HH Try.underlying25 (size_hart.trans (by rw [varr_size]))) (fun a hA => ?_)
    refine W_val hA rfl 32 rfl (by decide) _ _ (R_row hA rfl rfl TT Try.underlying27 (size_ts _)) (fun a hA => ?_)
    refine W_callA hA (by decide) (fun _ _ => by kernel_rfl) (args2 hA rfl rfl) (enter_to okf sk hk _) (fun w14 hw a hA => ?_)
    replace HB := HB.trans (hw.mono HB.size)
    replace HH := HH.below hw
    replace TT := TT.below hw
    clear hw
    refine W_allocH hA rfl 6 rfl (by decide) rfl (fun w15 bA6 a hA hb A6 gA6 => ?_)
    have nHHA6 : bHH < bA6 := by have := HH.lt; omega
    have nTTA6 : bTT < bA6 := by have := TT.lt; omega
    replace gA6 := Nat.le_trans HB.size gA6
    replace HB := HB.trans (hb.mono HB.size)
    replace HH := HH.below hb
    replace TT := TT.below hb
    clear hb
    refine W_cpH hA rfl rfl rfl rfl rfl A6 (fun w16 hT HN => ?_)
    replace HB := HB.trans (hT.bel _ gA6)
    replace HH := hT.hart HH (by omega)
    replace TT := hT.ts TT (by omega)
    replace A6 := HN
    clear hT HN
    refine W_nil ?_
    refine then_nrm ?_
    show Code.wp Try.prog _ _ _ _
    refine wp_seq ?_
    refine wp_seq ?_
    refine wp_region_list ?_
    refine W_val hA rfl 34 rfl (by decide) _ _ (R_fa hA rfl rfl (fun w => fa_ts _ 0 (by decide) w) _) (fun a hA => ?_)
    refine W_val hA rfl 35 rfl (by decide) _ _ (R_ld (v := .bool false) hA rfl rfl ag_bool ((TsB.cell TT 0 (.bool s.is) rfl).trans (by rw [his]))) (fun a hA => ?_)
    refine W_val hA rfl 36 rfl (by decide) _ _ (R_not hA rfl rfl _) (fun a hA => ?_)
    refine W_nil ?_
    refine then_nrm ?_
    show Code.wp Try.prog _ _ _ _
    refine wp_cond_true (hA.ev (x := .tmp 36) rfl) ?_
    refine wp_seq ?_
    refine wp_region_list ?_
    refine W_val hA rfl 37 rfl (by decide) _ _ (R_row hA rfl rfl A6 Try.underlying25 (size_hart.trans (by rw [varr_size]))) (fun a hA => ?_)
    refine W_val hA rfl 38 rfl (by decide) _ _ (R_row hA rfl rfl HH Try.underlying25 (size_hart.trans (by rw [varr_size]))) (fun a hA => ?_)
    refine W_val hA rfl 39 rfl (by decide) _ _ (R_eqlH hA rfl rfl rfl true (hkf ▸ eqH_refl _) _) (fun a hA => ?_)
    refine W_val hA rfl 40 rfl (by decide) _ _ (R_mov hA rfl rfl _) (fun a hA => ?_)
    refine W_gcallB hA rfl rfl (by decide) (fun _ _ => by kernel_rfl) (args0 ) (wakes_any _) (fun w17 hw a hA => ?_)
    replace HB := HB.trans (hw.mono HB.size)
    replace HH := HH.below hw
    replace TT := TT.below hw
    replace A6 := A6.below hw
    clear hw
    refine W_val hA rfl 42 rfl (by decide) _ _ (R_pick hA rfl rfl rfl _) (fun a hA => ?_)
    refine W_val hA rfl 4 rfl (by decide) _ _ (R_asg hA rfl rfl _) (fun a hA => ?_)
    refine W_nil ?_
    refine then_nrm ?_
    show Code.wp Try.prog _ _ _ _
    refine wp_ret ?_
    refine then_ret ?_
    exact ret_tmp (j := 4) (by kernel_rfl) hA (by decide) rfl ⟨rfl, HB⟩
  refine W_gskip hA rfl rfl rfl 27 rfl (by decide) (fun a hA => ?_)
  refine W_gskip hA rfl rfl rfl 28 rfl (by decide) (fun a hA => ?_)
  refine W_gval hA rfl rfl rfl 29 rfl (by decide) _ _ (R_pick hA rfl rfl rfl _) (fun a hA => ?_)
  refine W_val hA rfl 30 rfl (by decide) _ _ (R_pick hA rfl rfl rfl _) (fun a hA => ?_)
  refine W_nil ?_
  refine then_nrm ?_
  show Code.wp Try.prog _ _ _ _
  refine wp_cond_false (hA.ev (x := .tmp 30) rfl) ?_
  refine wp_skip ?_
  refine then_nrm ?_
  show Code.wp Try.prog _ _ _ _
  refine wp_seq ?_
  refine wp_region_list ?_
  refine W_val hA rfl 31 rfl (by decide) _ _ (R_row hA rfl rfl HH Try.underlying25 (size_hart.trans (by rw [varr_size]))) (fun a hA => ?_)
  refine W_val hA rfl 32 rfl (by decide) _ _ (R_row hA rfl rfl TT Try.underlying27 (size_ts _)) (fun a hA => ?_)
  refine W_callA hA (by decide) (fun _ _ => by kernel_rfl) (args2 hA rfl rfl) (enter_to okf sk hk _) (fun w18 hw a hA => ?_)
  replace HB := HB.trans (hw.mono HB.size)
  replace HH := HH.below hw
  replace TT := TT.below hw
  clear hw
  refine W_allocH hA rfl 6 rfl (by decide) rfl (fun w19 bA6 a hA hb A6 gA6 => ?_)
  have nHHA6 : bHH < bA6 := by have := HH.lt; omega
  have nTTA6 : bTT < bA6 := by have := TT.lt; omega
  replace gA6 := Nat.le_trans HB.size gA6
  replace HB := HB.trans (hb.mono HB.size)
  replace HH := HH.below hb
  replace TT := TT.below hb
  clear hb
  refine W_cpH hA rfl rfl rfl rfl rfl A6 (fun w20 hT HN => ?_)
  replace HB := HB.trans (hT.bel _ gA6)
  replace HH := hT.hart HH (by omega)
  replace TT := hT.ts TT (by omega)
  replace A6 := HN
  clear hT HN
  refine W_nil ?_
  refine then_nrm ?_
  show Code.wp Try.prog _ _ _ _
  refine wp_seq ?_
  refine wp_seq ?_
  refine wp_region_list ?_
  refine W_val hA rfl 34 rfl (by decide) _ _ (R_fa hA rfl rfl (fun w => fa_ts _ 0 (by decide) w) _) (fun a hA => ?_)
  refine W_val hA rfl 35 rfl (by decide) _ _ (R_ld (v := .bool false) hA rfl rfl ag_bool ((TsB.cell TT 0 (.bool s.is) rfl).trans (by rw [his]))) (fun a hA => ?_)
  refine W_val hA rfl 36 rfl (by decide) _ _ (R_not hA rfl rfl _) (fun a hA => ?_)
  refine W_nil ?_
  refine then_nrm ?_
  show Code.wp Try.prog _ _ _ _
  refine wp_cond_true (hA.ev (x := .tmp 36) rfl) ?_
  refine wp_seq ?_
  refine wp_region_list ?_
  refine W_val hA rfl 37 rfl (by decide) _ _ (R_row hA rfl rfl A6 Try.underlying25 (size_hart.trans (by rw [varr_size]))) (fun a hA => ?_)
  refine W_val hA rfl 38 rfl (by decide) _ _ (R_row hA rfl rfl HH Try.underlying25 (size_hart.trans (by rw [varr_size]))) (fun a hA => ?_)
  refine W_val hA rfl 39 rfl (by decide) _ _ (R_eqlH hA rfl rfl rfl true (hkf ▸ eqH_refl _) _) (fun a hA => ?_)
  refine W_val hA rfl 40 rfl (by decide) _ _ (R_mov hA rfl rfl _) (fun a hA => ?_)
  refine W_gcallB hA rfl rfl (by decide) (fun _ _ => by kernel_rfl) (args0 ) (wakes_any _) (fun w21 hw a hA => ?_)
  replace HB := HB.trans (hw.mono HB.size)
  replace HH := HH.below hw
  replace TT := TT.below hw
  replace A6 := A6.below hw
  clear hw
  refine W_val hA rfl 42 rfl (by decide) _ _ (R_pick hA rfl rfl rfl _) (fun a hA => ?_)
  refine W_val hA rfl 4 rfl (by decide) _ _ (R_asg hA rfl rfl _) (fun a hA => ?_)
  refine W_nil ?_
  refine then_nrm ?_
  show Code.wp Try.prog _ _ _ _
  refine wp_ret ?_
  refine then_ret ?_
  exact ret_tmp (j := 4) (by kernel_rfl) hA (by decide) rfl ⟨rfl, HB⟩
set_option maxHeartbeats 8000000 in
theorem trapUp_1n (t : HS) (s : TS) (f k : HS) (w : World) (ok : HOk t) (sk : TOk s) (hf : fixZ t = f) (okf : HOk f) (okk : HOk k) (lgk : Lgl k) (his : s.is = false) (hk : enterZ f s = k) (z : toZ f s.c = 1) (hkf : k = f) (h33 : ¬ f.n 33 = 3) : Calls Try.prog 6 #[hartV t, tsV s] w fun e w' => e = .returned (.bool true) ∧ Below w.heap.size w w' := by
  have HB := Below.refl w.heap.size w
  go_enter Try.func6, Try.ntmps6
  refine begin_fr [(1, tsV s), (0, hartV t)] 60 ?_ (fun a hA => ?_)
  · exact FrA.add (FrA.add (FrA.nil (by rfl) (by rfl)) 0 _ (by rfl)) 1 _ (by rfl)
  refine wp_seq ?_
  refine wp_region_list ?_
  refine W_boxH hA rfl 2 rfl (by decide) rfl rfl (fun w1 bHH a hA hb HH gHH => ?_)
  replace gHH := Nat.le_trans HB.size gHH
  replace HB := HB.trans (hb.mono HB.size)
  clear hb
  refine W_boxT hA rfl 3 rfl (by decide) rfl rfl (fun w2 bTT a hA hb TT gTT => ?_)
  have nHHTT : bHH < bTT := by have := HH.lt; omega
  replace gTT := Nat.le_trans HB.size gTT
  replace HB := HB.trans (hb.mono HB.size)
  replace HH := HH.below hb
  clear hb
  refine W_val hA rfl 4 rfl (by decide) _ _ (R_asg hA rfl rfl _) (fun a hA => ?_)
  refine W_nil ?_
  refine then_nrm ?_
  show Code.wp Try.prog _ _ _ _
  refine wp_seq ?_
  refine wp_region_list ?_
  refine W_val hA rfl 9 rfl (by decide) _ _ (R_row hA rfl rfl HH Try.underlying25 (size_hart.trans (by rw [varr_size]))) (fun a hA => ?_)
  refine W_callA hA (by decide) (fun _ _ => by kernel_rfl) (args1 hA rfl) (fix_to ok hf _) (fun w3 hw a hA => ?_)
  replace HB := HB.trans (hw.mono HB.size)
  replace HH := HH.below hw
  replace TT := TT.below hw
  clear hw
  refine W_cpH hA rfl rfl rfl rfl rfl HH (fun w4 hT HN => ?_)
  replace HB := HB.trans (hT.bel _ gHH)
  replace TT := hT.ts TT (by omega)
  replace HH := HN
  clear hT HN
  refine W_nil ?_
  refine then_nrm ?_
  show Code.wp Try.prog _ _ _ _
  refine wp_seq ?_
  refine wp_region_list ?_
  refine W_val hA rfl 11 rfl (by decide) _ _ (R_row hA rfl rfl HH Try.underlying25 (size_hart.trans (by rw [varr_size]))) (fun a hA => ?_)
  refine W_val hA rfl 12 rfl (by decide) _ _ (R_fa hA rfl rfl (fun w => fa_ts _ 1 (by decide) w) _) (fun a hA => ?_)
  refine W_val hA rfl 13 rfl (by decide) _ _ (R_ld (v := .int .u64 (s.c)) hA rfl rfl ag_u64 (TsB.cell TT 1 _ rfl)) (fun a hA => ?_)
  refine W_callA hA (by decide) (fun _ _ => by kernel_rfl) (args2 hA rfl rfl) (to_to (k := 1) okf sk.c z _) (fun w5 hw a hA => ?_)
  replace HB := HB.trans (hw.mono HB.size)
  replace HH := HH.below hw
  replace TT := TT.below hw
  clear hw
  refine W_val hA rfl 5 rfl (by decide) _ _ (R_asg hA rfl rfl _) (fun a hA => ?_)
  refine W_nil ?_
  refine then_nrm ?_
  show Code.wp Try.prog _ _ _ _
  refine wp_seq ?_
  refine wp_seq ?_
  refine wp_region_list ?_
  refine W_val hA rfl 15 rfl (by decide) _ _ (R_fa hA rfl rfl (fun w => fa_hart _ 2 33 (by decide) rfl w) _) (fun a hA => ?_)
  refine W_val hA rfl 16 rfl (by decide) _ _ (R_ld (v := .int .u8 (f.n 33)) hA rfl rfl ag_u8 HH.p) (fun a hA => ?_)
  refine W_val hA rfl 17 rfl (by decide) _ _ (R_eqlBN hA rfl rfl rfl false (by simpa using h33) _) (fun a hA => ?_)
  refine W_val hA rfl 18 rfl (by decide) _ _ (R_mov hA rfl rfl _) (fun a hA => ?_)
  refine W_gskip hA rfl rfl rfl 19 rfl (by decide) (fun a hA => ?_)
  refine W_gskip hA rfl rfl rfl 20 rfl (by decide) (fun a hA => ?_)
  refine W_val hA rfl 21 rfl (by decide) _ _ (R_pick hA rfl rfl rfl _) (fun a hA => ?_)
  refine W_val hA rfl 22 rfl (by decide) _ _ (R_mov hA rfl rfl _) (fun a hA => ?_)
  refine W_gval hA rfl rfl rfl 23 rfl (by decide) _ _ (R_fa hA rfl rfl (fun w => fa_hart _ 3 34 (by decide) rfl w) _) (fun a hA => ?_)
  refine W_gval hA rfl rfl rfl 24 rfl (by decide) _ _ (R_ld (v := .bool (f.v)) hA rfl rfl ag_bool HH.v) (fun a hA => ?_)
  refine W_gval hA rfl rfl rfl 25 rfl (by decide) _ _ (R_not hA rfl rfl _) (fun a hA => ?_)
  refine W_gval hA rfl rfl rfl 26 rfl (by decide) _ _ (R_mov hA rfl rfl _) (fun a hA => ?_)
  refine W_split hA 26 rfl (fun c1 hA => ?_) (fun c1 hA => ?_)
  · skip
    refine W_gval hA rfl rfl rfl 27 rfl (by decide) _ _ (R_mov hA rfl rfl _) (fun a hA => ?_)
    refine W_gval hA rfl rfl rfl 28 rfl (by decide) _ _ (R_eqlIT hA rfl rfl rfl false (by decide) _) (fun a hA => ?_)
    refine W_gval hA rfl rfl rfl 29 rfl (by decide) _ _ (R_pick hA rfl rfl rfl _) (fun a hA => ?_)
    refine W_val hA rfl 30 rfl (by decide) _ _ (R_pick hA rfl rfl rfl _) (fun a hA => ?_)
    refine W_nil ?_
    refine then_nrm ?_
    show Code.wp Try.prog _ _ _ _
    refine wp_cond_false (hA.ev (x := .tmp 30) rfl) ?_
    refine wp_skip ?_
    refine then_nrm ?_
    show Code.wp Try.prog _ _ _ _
    refine wp_seq ?_
    refine wp_region_list ?_
    refine W_val hA rfl 31 rfl (by decide) _ _ (R_row hA rfl rfl HH Try.underlying25 (size_hart.trans (by rw [varr_size]))) (fun a hA => ?_)
    refine W_val hA rfl 32 rfl (by decide) _ _ (R_row hA rfl rfl TT Try.underlying27 (size_ts _)) (fun a hA => ?_)
    refine W_callA hA (by decide) (fun _ _ => by kernel_rfl) (args2 hA rfl rfl) (enter_to okf sk hk _) (fun w6 hw a hA => ?_)
    replace HB := HB.trans (hw.mono HB.size)
    replace HH := HH.below hw
    replace TT := TT.below hw
    clear hw
    refine W_allocH hA rfl 6 rfl (by decide) rfl (fun w7 bA6 a hA hb A6 gA6 => ?_)
    have nHHA6 : bHH < bA6 := by have := HH.lt; omega
    have nTTA6 : bTT < bA6 := by have := TT.lt; omega
    replace gA6 := Nat.le_trans HB.size gA6
    replace HB := HB.trans (hb.mono HB.size)
    replace HH := HH.below hb
    replace TT := TT.below hb
    clear hb
    refine W_cpH hA rfl rfl rfl rfl rfl A6 (fun w8 hT HN => ?_)
    replace HB := HB.trans (hT.bel _ gA6)
    replace HH := hT.hart HH (by omega)
    replace TT := hT.ts TT (by omega)
    replace A6 := HN
    clear hT HN
    refine W_nil ?_
    refine then_nrm ?_
    show Code.wp Try.prog _ _ _ _
    refine wp_seq ?_
    refine wp_seq ?_
    refine wp_region_list ?_
    refine W_val hA rfl 34 rfl (by decide) _ _ (R_fa hA rfl rfl (fun w => fa_ts _ 0 (by decide) w) _) (fun a hA => ?_)
    refine W_val hA rfl 35 rfl (by decide) _ _ (R_ld (v := .bool false) hA rfl rfl ag_bool ((TsB.cell TT 0 (.bool s.is) rfl).trans (by rw [his]))) (fun a hA => ?_)
    refine W_val hA rfl 36 rfl (by decide) _ _ (R_not hA rfl rfl _) (fun a hA => ?_)
    refine W_nil ?_
    refine then_nrm ?_
    show Code.wp Try.prog _ _ _ _
    refine wp_cond_true (hA.ev (x := .tmp 36) rfl) ?_
    refine wp_seq ?_
    refine wp_region_list ?_
    refine W_val hA rfl 37 rfl (by decide) _ _ (R_row hA rfl rfl A6 Try.underlying25 (size_hart.trans (by rw [varr_size]))) (fun a hA => ?_)
    refine W_val hA rfl 38 rfl (by decide) _ _ (R_row hA rfl rfl HH Try.underlying25 (size_hart.trans (by rw [varr_size]))) (fun a hA => ?_)
    refine W_val hA rfl 39 rfl (by decide) _ _ (R_eqlH hA rfl rfl rfl true (hkf ▸ eqH_refl _) _) (fun a hA => ?_)
    refine W_val hA rfl 40 rfl (by decide) _ _ (R_mov hA rfl rfl _) (fun a hA => ?_)
    refine W_gcallB hA rfl rfl (by decide) (fun _ _ => by kernel_rfl) (args0 ) (wakes_any _) (fun w9 hw a hA => ?_)
    replace HB := HB.trans (hw.mono HB.size)
    replace HH := HH.below hw
    replace TT := TT.below hw
    replace A6 := A6.below hw
    clear hw
    refine W_val hA rfl 42 rfl (by decide) _ _ (R_pick hA rfl rfl rfl _) (fun a hA => ?_)
    refine W_val hA rfl 4 rfl (by decide) _ _ (R_asg hA rfl rfl _) (fun a hA => ?_)
    refine W_nil ?_
    refine then_nrm ?_
    show Code.wp Try.prog _ _ _ _
    refine wp_ret ?_
    refine then_ret ?_
    exact ret_tmp (j := 4) (by kernel_rfl) hA (by decide) rfl ⟨rfl, HB⟩
  refine W_gskip hA rfl rfl rfl 27 rfl (by decide) (fun a hA => ?_)
  refine W_gskip hA rfl rfl rfl 28 rfl (by decide) (fun a hA => ?_)
  refine W_gval hA rfl rfl rfl 29 rfl (by decide) _ _ (R_pick hA rfl rfl rfl _) (fun a hA => ?_)
  refine W_val hA rfl 30 rfl (by decide) _ _ (R_pick hA rfl rfl rfl _) (fun a hA => ?_)
  refine W_nil ?_
  refine then_nrm ?_
  show Code.wp Try.prog _ _ _ _
  refine wp_cond_false (hA.ev (x := .tmp 30) rfl) ?_
  refine wp_skip ?_
  refine then_nrm ?_
  show Code.wp Try.prog _ _ _ _
  refine wp_seq ?_
  refine wp_region_list ?_
  refine W_val hA rfl 31 rfl (by decide) _ _ (R_row hA rfl rfl HH Try.underlying25 (size_hart.trans (by rw [varr_size]))) (fun a hA => ?_)
  refine W_val hA rfl 32 rfl (by decide) _ _ (R_row hA rfl rfl TT Try.underlying27 (size_ts _)) (fun a hA => ?_)
  refine W_callA hA (by decide) (fun _ _ => by kernel_rfl) (args2 hA rfl rfl) (enter_to okf sk hk _) (fun w10 hw a hA => ?_)
  replace HB := HB.trans (hw.mono HB.size)
  replace HH := HH.below hw
  replace TT := TT.below hw
  clear hw
  refine W_allocH hA rfl 6 rfl (by decide) rfl (fun w11 bA6 a hA hb A6 gA6 => ?_)
  have nHHA6 : bHH < bA6 := by have := HH.lt; omega
  have nTTA6 : bTT < bA6 := by have := TT.lt; omega
  replace gA6 := Nat.le_trans HB.size gA6
  replace HB := HB.trans (hb.mono HB.size)
  replace HH := HH.below hb
  replace TT := TT.below hb
  clear hb
  refine W_cpH hA rfl rfl rfl rfl rfl A6 (fun w12 hT HN => ?_)
  replace HB := HB.trans (hT.bel _ gA6)
  replace HH := hT.hart HH (by omega)
  replace TT := hT.ts TT (by omega)
  replace A6 := HN
  clear hT HN
  refine W_nil ?_
  refine then_nrm ?_
  show Code.wp Try.prog _ _ _ _
  refine wp_seq ?_
  refine wp_seq ?_
  refine wp_region_list ?_
  refine W_val hA rfl 34 rfl (by decide) _ _ (R_fa hA rfl rfl (fun w => fa_ts _ 0 (by decide) w) _) (fun a hA => ?_)
  refine W_val hA rfl 35 rfl (by decide) _ _ (R_ld (v := .bool false) hA rfl rfl ag_bool ((TsB.cell TT 0 (.bool s.is) rfl).trans (by rw [his]))) (fun a hA => ?_)
  refine W_val hA rfl 36 rfl (by decide) _ _ (R_not hA rfl rfl _) (fun a hA => ?_)
  refine W_nil ?_
  refine then_nrm ?_
  show Code.wp Try.prog _ _ _ _
  refine wp_cond_true (hA.ev (x := .tmp 36) rfl) ?_
  refine wp_seq ?_
  refine wp_region_list ?_
  refine W_val hA rfl 37 rfl (by decide) _ _ (R_row hA rfl rfl A6 Try.underlying25 (size_hart.trans (by rw [varr_size]))) (fun a hA => ?_)
  refine W_val hA rfl 38 rfl (by decide) _ _ (R_row hA rfl rfl HH Try.underlying25 (size_hart.trans (by rw [varr_size]))) (fun a hA => ?_)
  refine W_val hA rfl 39 rfl (by decide) _ _ (R_eqlH hA rfl rfl rfl true (hkf ▸ eqH_refl _) _) (fun a hA => ?_)
  refine W_val hA rfl 40 rfl (by decide) _ _ (R_mov hA rfl rfl _) (fun a hA => ?_)
  refine W_gcallB hA rfl rfl (by decide) (fun _ _ => by kernel_rfl) (args0 ) (wakes_any _) (fun w13 hw a hA => ?_)
  replace HB := HB.trans (hw.mono HB.size)
  replace HH := HH.below hw
  replace TT := TT.below hw
  replace A6 := A6.below hw
  clear hw
  refine W_val hA rfl 42 rfl (by decide) _ _ (R_pick hA rfl rfl rfl _) (fun a hA => ?_)
  refine W_val hA rfl 4 rfl (by decide) _ _ (R_asg hA rfl rfl _) (fun a hA => ?_)
  refine W_nil ?_
  refine then_nrm ?_
  show Code.wp Try.prog _ _ _ _
  refine wp_ret ?_
  refine then_ret ?_
  exact ret_tmp (j := 4) (by kernel_rfl) hA (by decide) rfl ⟨rfl, HB⟩
set_option maxHeartbeats 8000000 in
theorem trapUp_2n (t : HS) (s : TS) (f k : HS) (w : World) (ok : HOk t) (sk : TOk s) (hf : fixZ t = f) (okf : HOk f) (okk : HOk k) (lgk : Lgl k) (his : s.is = false) (hk : enterZ f s = k) (z : toZ f s.c = 2) (hkf : k = f) (h33 : ¬ f.n 33 = 3) (hv : f.v = true) : Calls Try.prog 6 #[hartV t, tsV s] w fun e w' => e = .returned (.bool true) ∧ Below w.heap.size w w' := by
  have HB := Below.refl w.heap.size w
  go_enter Try.func6, Try.ntmps6
  refine begin_fr [(1, tsV s), (0, hartV t)] 60 ?_ (fun a hA => ?_)
  · exact FrA.add (FrA.add (FrA.nil (by rfl) (by rfl)) 0 _ (by rfl)) 1 _ (by rfl)
  refine wp_seq ?_
  refine wp_region_list ?_
  refine W_boxH hA rfl 2 rfl (by decide) rfl rfl (fun w1 bHH a hA hb HH gHH => ?_)
  replace gHH := Nat.le_trans HB.size gHH
  replace HB := HB.trans (hb.mono HB.size)
  clear hb
  refine W_boxT hA rfl 3 rfl (by decide) rfl rfl (fun w2 bTT a hA hb TT gTT => ?_)
  have nHHTT : bHH < bTT := by have := HH.lt; omega
  replace gTT := Nat.le_trans HB.size gTT
  replace HB := HB.trans (hb.mono HB.size)
  replace HH := HH.below hb
  clear hb
  refine W_val hA rfl 4 rfl (by decide) _ _ (R_asg hA rfl rfl _) (fun a hA => ?_)
  refine W_nil ?_
  refine then_nrm ?_
  show Code.wp Try.prog _ _ _ _
  refine wp_seq ?_
  refine wp_region_list ?_
  refine W_val hA rfl 9 rfl (by decide) _ _ (R_row hA rfl rfl HH Try.underlying25 (size_hart.trans (by rw [varr_size]))) (fun a hA => ?_)
  refine W_callA hA (by decide) (fun _ _ => by kernel_rfl) (args1 hA rfl) (fix_to ok hf _) (fun w3 hw a hA => ?_)
  replace HB := HB.trans (hw.mono HB.size)
  replace HH := HH.below hw
  replace TT := TT.below hw
  clear hw
  refine W_cpH hA rfl rfl rfl rfl rfl HH (fun w4 hT HN => ?_)
  replace HB := HB.trans (hT.bel _ gHH)
  replace TT := hT.ts TT (by omega)
  replace HH := HN
  clear hT HN
  refine W_nil ?_
  refine then_nrm ?_
  show Code.wp Try.prog _ _ _ _
  refine wp_seq ?_
  refine wp_region_list ?_
  refine W_val hA rfl 11 rfl (by decide) _ _ (R_row hA rfl rfl HH Try.underlying25 (size_hart.trans (by rw [varr_size]))) (fun a hA => ?_)
  refine W_val hA rfl 12 rfl (by decide) _ _ (R_fa hA rfl rfl (fun w => fa_ts _ 1 (by decide) w) _) (fun a hA => ?_)
  refine W_val hA rfl 13 rfl (by decide) _ _ (R_ld (v := .int .u64 (s.c)) hA rfl rfl ag_u64 (TsB.cell TT 1 _ rfl)) (fun a hA => ?_)
  refine W_callA hA (by decide) (fun _ _ => by kernel_rfl) (args2 hA rfl rfl) (to_to (k := 2) okf sk.c z _) (fun w5 hw a hA => ?_)
  replace HB := HB.trans (hw.mono HB.size)
  replace HH := HH.below hw
  replace TT := TT.below hw
  clear hw
  refine W_val hA rfl 5 rfl (by decide) _ _ (R_asg hA rfl rfl _) (fun a hA => ?_)
  refine W_nil ?_
  refine then_nrm ?_
  show Code.wp Try.prog _ _ _ _
  refine wp_seq ?_
  refine wp_seq ?_
  refine wp_region_list ?_
  refine W_val hA rfl 15 rfl (by decide) _ _ (R_fa hA rfl rfl (fun w => fa_hart _ 2 33 (by decide) rfl w) _) (fun a hA => ?_)
  refine W_val hA rfl 16 rfl (by decide) _ _ (R_ld (v := .int .u8 (f.n 33)) hA rfl rfl ag_u8 HH.p) (fun a hA => ?_)
  refine W_val hA rfl 17 rfl (by decide) _ _ (R_eqlBN hA rfl rfl rfl false (by simpa using h33) _) (fun a hA => ?_)
  refine W_val hA rfl 18 rfl (by decide) _ _ (R_mov hA rfl rfl _) (fun a hA => ?_)
  refine W_gskip hA rfl rfl rfl 19 rfl (by decide) (fun a hA => ?_)
  refine W_gskip hA rfl rfl rfl 20 rfl (by decide) (fun a hA => ?_)
  refine W_val hA rfl 21 rfl (by decide) _ _ (R_pick hA rfl rfl rfl _) (fun a hA => ?_)
  refine W_val hA rfl 22 rfl (by decide) _ _ (R_mov hA rfl rfl _) (fun a hA => ?_)
  refine W_gval hA rfl rfl rfl 23 rfl (by decide) _ _ (R_fa hA rfl rfl (fun w => fa_hart _ 3 34 (by decide) rfl w) _) (fun a hA => ?_)
  refine W_gval hA rfl rfl rfl 24 rfl (by decide) _ _ (R_ld (v := .bool true) hA rfl rfl ag_bool (HH.v.trans (by rw [hv]))) (fun a hA => ?_)
  refine W_gval hA rfl rfl rfl 25 rfl (by decide) _ _ (R_not hA rfl rfl _) (fun a hA => ?_)
  refine W_gval hA rfl rfl rfl 26 rfl (by decide) _ _ (R_mov hA rfl rfl _) (fun a hA => ?_)
  refine W_gskip hA rfl rfl rfl 27 rfl (by decide) (fun a hA => ?_)
  refine W_gskip hA rfl rfl rfl 28 rfl (by decide) (fun a hA => ?_)
  refine W_gval hA rfl rfl rfl 29 rfl (by decide) _ _ (R_pick hA rfl rfl rfl _) (fun a hA => ?_)
  refine W_val hA rfl 30 rfl (by decide) _ _ (R_pick hA rfl rfl rfl _) (fun a hA => ?_)
  refine W_nil ?_
  refine then_nrm ?_
  show Code.wp Try.prog _ _ _ _
  refine wp_cond_false (hA.ev (x := .tmp 30) rfl) ?_
  refine wp_skip ?_
  refine then_nrm ?_
  show Code.wp Try.prog _ _ _ _
  refine wp_seq ?_
  refine wp_region_list ?_
  refine W_val hA rfl 31 rfl (by decide) _ _ (R_row hA rfl rfl HH Try.underlying25 (size_hart.trans (by rw [varr_size]))) (fun a hA => ?_)
  refine W_val hA rfl 32 rfl (by decide) _ _ (R_row hA rfl rfl TT Try.underlying27 (size_ts _)) (fun a hA => ?_)
  refine W_callA hA (by decide) (fun _ _ => by kernel_rfl) (args2 hA rfl rfl) (enter_to okf sk hk _) (fun w6 hw a hA => ?_)
  replace HB := HB.trans (hw.mono HB.size)
  replace HH := HH.below hw
  replace TT := TT.below hw
  clear hw
  refine W_allocH hA rfl 6 rfl (by decide) rfl (fun w7 bA6 a hA hb A6 gA6 => ?_)
  have nHHA6 : bHH < bA6 := by have := HH.lt; omega
  have nTTA6 : bTT < bA6 := by have := TT.lt; omega
  replace gA6 := Nat.le_trans HB.size gA6
  replace HB := HB.trans (hb.mono HB.size)
  replace HH := HH.below hb
  replace TT := TT.below hb
  clear hb
  refine W_cpH hA rfl rfl rfl rfl rfl A6 (fun w8 hT HN => ?_)
  replace HB := HB.trans (hT.bel _ gA6)
  replace HH := hT.hart HH (by omega)
  replace TT := hT.ts TT (by omega)
  replace A6 := HN
  clear hT HN
  refine W_nil ?_
  refine then_nrm ?_
  show Code.wp Try.prog _ _ _ _
  refine wp_seq ?_
  refine wp_seq ?_
  refine wp_region_list ?_
  refine W_val hA rfl 34 rfl (by decide) _ _ (R_fa hA rfl rfl (fun w => fa_ts _ 0 (by decide) w) _) (fun a hA => ?_)
  refine W_val hA rfl 35 rfl (by decide) _ _ (R_ld (v := .bool false) hA rfl rfl ag_bool ((TsB.cell TT 0 (.bool s.is) rfl).trans (by rw [his]))) (fun a hA => ?_)
  refine W_val hA rfl 36 rfl (by decide) _ _ (R_not hA rfl rfl _) (fun a hA => ?_)
  refine W_nil ?_
  refine then_nrm ?_
  show Code.wp Try.prog _ _ _ _
  refine wp_cond_true (hA.ev (x := .tmp 36) rfl) ?_
  refine wp_seq ?_
  refine wp_region_list ?_
  refine W_val hA rfl 37 rfl (by decide) _ _ (R_row hA rfl rfl A6 Try.underlying25 (size_hart.trans (by rw [varr_size]))) (fun a hA => ?_)
  refine W_val hA rfl 38 rfl (by decide) _ _ (R_row hA rfl rfl HH Try.underlying25 (size_hart.trans (by rw [varr_size]))) (fun a hA => ?_)
  refine W_val hA rfl 39 rfl (by decide) _ _ (R_eqlH hA rfl rfl rfl true (hkf ▸ eqH_refl _) _) (fun a hA => ?_)
  refine W_val hA rfl 40 rfl (by decide) _ _ (R_mov hA rfl rfl _) (fun a hA => ?_)
  refine W_gcallB hA rfl rfl (by decide) (fun _ _ => by kernel_rfl) (args0 ) (wakes_any _) (fun w9 hw a hA => ?_)
  replace HB := HB.trans (hw.mono HB.size)
  replace HH := HH.below hw
  replace TT := TT.below hw
  replace A6 := A6.below hw
  clear hw
  refine W_val hA rfl 42 rfl (by decide) _ _ (R_pick hA rfl rfl rfl _) (fun a hA => ?_)
  refine W_val hA rfl 4 rfl (by decide) _ _ (R_asg hA rfl rfl _) (fun a hA => ?_)
  refine W_nil ?_
  refine then_nrm ?_
  show Code.wp Try.prog _ _ _ _
  refine wp_ret ?_
  refine then_ret ?_
  exact ret_tmp (j := 4) (by kernel_rfl) hA (by decide) rfl ⟨rfl, HB⟩
set_option maxHeartbeats 8000000 in
theorem trapUp_0y (t : HS) (s : TS) (f k : HS) (w : World) (ok : HOk t) (sk : TOk s) (hf : fixZ t = f) (okf : HOk f) (okk : HOk k) (lgk : Lgl k) (his : s.is = true) (hk : enterZ f s = k) (z : toZ f s.c = 0) : Calls Try.prog 6 #[hartV t, tsV s] w fun e w' => e = .returned (.bool true) ∧ Below w.heap.size w w' := by
  have HB := Below.refl w.heap.size w
  go_enter Try.func6, Try.ntmps6
  refine begin_fr [(1, tsV s), (0, hartV t)] 60 ?_ (fun a hA => ?_)
  · exact FrA.add (FrA.add (FrA.nil (by rfl) (by rfl)) 0 _ (by rfl)) 1 _ (by rfl)
  refine wp_seq ?_
  refine wp_region_list ?_
  refine W_boxH hA rfl 2 rfl (by decide) rfl rfl (fun w1 bHH a hA hb HH gHH => ?_)
  replace gHH := Nat.le_trans HB.size gHH
  replace HB := HB.trans (hb.mono HB.size)
  clear hb
  refine W_boxT hA rfl 3 rfl (by decide) rfl rfl (fun w2 bTT a hA hb TT gTT => ?_)
  have nHHTT : bHH < bTT := by have := HH.lt; omega
  replace gTT := Nat.le_trans HB.size gTT
  replace HB := HB.trans (hb.mono HB.size)
  replace HH := HH.below hb
  clear hb
  refine W_val hA rfl 4 rfl (by decide) _ _ (R_asg hA rfl rfl _) (fun a hA => ?_)
  refine W_nil ?_
  refine then_nrm ?_
  show Code.wp Try.prog _ _ _ _
  refine wp_seq ?_
  refine wp_region_list ?_
  refine W_val hA rfl 9 rfl (by decide) _ _ (R_row hA rfl rfl HH Try.underlying25 (size_hart.trans (by rw [varr_size]))) (fun a hA => ?_)
  refine W_callA hA (by decide) (fun _ _ => by kernel_rfl) (args1 hA rfl) (fix_to ok hf _) (fun w3 hw a hA => ?_)
  replace HB := HB.trans (hw.mono HB.size)
  replace HH := HH.below hw
  replace TT := TT.below hw
  clear hw
  refine W_cpH hA rfl rfl rfl rfl rfl HH (fun w4 hT HN => ?_)
  replace HB := HB.trans (hT.bel _ gHH)
  replace TT := hT.ts TT (by omega)
  replace HH := HN
  clear hT HN
  refine W_nil ?_
  refine then_nrm ?_
  show Code.wp Try.prog _ _ _ _
  refine wp_seq ?_
  refine wp_region_list ?_
  refine W_val hA rfl 11 rfl (by decide) _ _ (R_row hA rfl rfl HH Try.underlying25 (size_hart.trans (by rw [varr_size]))) (fun a hA => ?_)
  refine W_val hA rfl 12 rfl (by decide) _ _ (R_fa hA rfl rfl (fun w => fa_ts _ 1 (by decide) w) _) (fun a hA => ?_)
  refine W_val hA rfl 13 rfl (by decide) _ _ (R_ld (v := .int .u64 (s.c)) hA rfl rfl ag_u64 (TsB.cell TT 1 _ rfl)) (fun a hA => ?_)
  refine W_callA hA (by decide) (fun _ _ => by kernel_rfl) (args2 hA rfl rfl) (to_to (k := 0) okf sk.c z _) (fun w5 hw a hA => ?_)
  replace HB := HB.trans (hw.mono HB.size)
  replace HH := HH.below hw
  replace TT := TT.below hw
  clear hw
  refine W_val hA rfl 5 rfl (by decide) _ _ (R_asg hA rfl rfl _) (fun a hA => ?_)
  refine W_nil ?_
  refine then_nrm ?_
  show Code.wp Try.prog _ _ _ _
  refine wp_seq ?_
  refine wp_seq ?_
  refine wp_region_list ?_
  refine W_val hA rfl 15 rfl (by decide) _ _ (R_fa hA rfl rfl (fun w => fa_hart _ 2 33 (by decide) rfl w) _) (fun a hA => ?_)
  refine W_val hA rfl 16 rfl (by decide) _ _ (R_ld (v := .int .u8 (f.n 33)) hA rfl rfl ag_u8 HH.p) (fun a hA => ?_)
  refine W_val hA rfl 17 rfl (by decide) _ _ (R_eqlB hA rfl rfl rfl _) (fun a hA => ?_)
  refine W_val hA rfl 18 rfl (by decide) _ _ (R_mov hA rfl rfl _) (fun a hA => ?_)
  refine W_split hA 18 rfl (fun c1 hA => ?_) (fun c1 hA => ?_)
  · skip
    refine W_gval hA rfl rfl rfl 19 rfl (by decide) _ _ (R_mov hA rfl rfl _) (fun a hA => ?_)
    refine W_gval hA rfl rfl rfl 20 rfl (by decide) _ _ (R_neqIT hA rfl rfl rfl false (by decide) _) (fun a hA => ?_)
    refine W_val hA rfl 21 rfl (by decide) _ _ (R_pick hA rfl rfl rfl _) (fun a hA => ?_)
    refine W_val hA rfl 22 rfl (by decide) _ _ (R_mov hA rfl rfl _) (fun a hA => ?_)
    refine W_gval hA rfl rfl rfl 23 rfl (by decide) _ _ (R_fa hA rfl rfl (fun w => fa_hart _ 3 34 (by decide) rfl w) _) (fun a hA => ?_)
    refine W_gval hA rfl rfl rfl 24 rfl (by decide) _ _ (R_ld (v := .bool (f.v)) hA rfl rfl ag_bool HH.v) (fun a hA => ?_)
    refine W_gval hA rfl rfl rfl 25 rfl (by decide) _ _ (R_not hA rfl rfl _) (fun a hA => ?_)
    refine W_gval hA rfl rfl rfl 26 rfl (by decide) _ _ (R_mov hA rfl rfl _) (fun a hA => ?_)
    refine W_split hA 26 rfl (fun c2 hA => ?_) (fun c2 hA => ?_)
    · skip
      refine W_gval hA rfl rfl rfl 27 rfl (by decide) _ _ (R_mov hA rfl rfl _) (fun a hA => ?_)
      refine W_gval hA rfl rfl rfl 28 rfl (by decide) _ _ (R_eqlIT hA rfl rfl rfl false (by decide) _) (fun a hA => ?_)
      refine W_gval hA rfl rfl rfl 29 rfl (by decide) _ _ (R_pick hA rfl rfl rfl _) (fun a hA => ?_)
      refine W_val hA rfl 30 rfl (by decide) _ _ (R_pick hA rfl rfl rfl _) (fun a hA => ?_)
      refine W_nil ?_
      refine then_nrm ?_
      show Code.wp Try.prog _ _ _ _
      refine wp_cond_false (hA.ev (x := .tmp 30) rfl) ?_
      refine wp_skip ?_
      refine then_nrm ?_
      show Code.wp Try.prog _ _ _ _
      refine wp_seq ?_
      refine wp_region_list ?_
      refine W_val hA rfl 31 rfl (by decide) _ _ (R_row hA rfl rfl HH Try.underlying25 (size_hart.trans (by rw [varr_size]))) (fun a hA => ?_)
      refine W_val hA rfl 32 rfl (by decide) _ _ (R_row hA rfl rfl TT Try.underlying27 (size_ts _)) (fun a hA => ?_)
      refine W_callA hA (by decide) (fun _ _ => by kernel_rfl) (args2 hA rfl rfl) (enter_to okf sk hk _) (fun w6 hw a hA => ?_)
      replace HB := HB.trans (hw.mono HB.size)
      replace HH := HH.below hw
      replace TT := TT.below hw
      clear hw
      refine W_allocH hA rfl 6 rfl (by decide) rfl (fun w7 bA6 a hA hb A6 gA6 => ?_)
      have nHHA6 : bHH < bA6 := by have := HH.lt; omega
      have nTTA6 : bTT < bA6 := by have := TT.lt; omega
      replace gA6 := Nat.le_trans HB.size gA6
      replace HB := HB.trans (hb.mono HB.size)
      replace HH := HH.below hb
      replace TT := TT.below hb
      clear hb
      refine W_cpH hA rfl rfl rfl rfl rfl A6 (fun w8 hT HN => ?_)
      replace HB := HB.trans (hT.bel _ gA6)
      replace HH := hT.hart HH (by omega)
      replace TT := hT.ts TT (by omega)
      replace A6 := HN
      clear hT HN
      refine W_nil ?_
      refine then_nrm ?_
      show Code.wp Try.prog _ _ _ _
      refine wp_seq ?_
      refine wp_seq ?_
      refine wp_region_list ?_
      refine W_val hA rfl 34 rfl (by decide) _ _ (R_fa hA rfl rfl (fun w => fa_ts _ 0 (by decide) w) _) (fun a hA => ?_)
      refine W_val hA rfl 35 rfl (by decide) _ _ (R_ld (v := .bool true) hA rfl rfl ag_bool ((TsB.cell TT 0 (.bool s.is) rfl).trans (by rw [his]))) (fun a hA => ?_)
      refine W_val hA rfl 36 rfl (by decide) _ _ (R_not hA rfl rfl _) (fun a hA => ?_)
      refine W_nil ?_
      refine then_nrm ?_
      show Code.wp Try.prog _ _ _ _
      refine wp_cond_false (hA.ev (x := .tmp 36) rfl) ?_
      refine wp_skip ?_
      refine then_nrm ?_
      show Code.wp Try.prog _ _ _ _
      refine wp_seq ?_
      refine wp_region_list ?_
      refine W_val hA rfl 43 rfl (by decide) _ _ (R_row hA rfl rfl A6 Try.underlying25 (size_hart.trans (by rw [varr_size]))) (fun a hA => ?_)
      refine W_callA hA (by decide) (fun _ _ => by kernel_rfl) (args1 hA rfl) (mret_any k okk _) (fun w9 hw a hA => ?_)
      replace HB := HB.trans (hw.mono HB.size)
      replace HH := HH.below hw
      replace TT := TT.below hw
      replace A6 := A6.below hw
      clear hw
      refine W_allocH hA rfl 7 rfl (by decide) rfl (fun w10 bA7 a hA hb A7 gA7 => ?_)
      have nHHA7 : bHH < bA7 := by have := HH.lt; omega
      have nTTA7 : bTT < bA7 := by have := TT.lt; omega
      have nA6A7 : bA6 < bA7 := by have := A6.lt; omega
      replace gA7 := Nat.le_trans HB.size gA7
      replace HB := HB.trans (hb.mono HB.size)
      replace HH := HH.below hb
      replace TT := TT.below hb
      replace A6 := A6.below hb
      clear hb
      refine W_cpH hA rfl rfl rfl rfl rfl A7 (fun w11 hT HN => ?_)
      replace HB := HB.trans (hT.bel _ gA7)
      replace HH := hT.hart HH (by omega)
      replace TT := hT.ts TT (by omega)
      replace A6 := hT.hart A6 (by omega)
      replace A7 := HN
      clear hT HN
      refine W_nil ?_
      refine then_nrm ?_
      show Code.wp Try.prog _ _ _ _
      refine wp_seq ?_
      refine wp_region_list ?_
      refine W_val hA rfl 45 rfl (by decide) _ _ (R_row hA rfl rfl A6 Try.underlying25 (size_hart.trans (by rw [varr_size]))) (fun a hA => ?_)
      refine W_callA hA (by decide) (fun _ _ => by kernel_rfl) (args1 hA rfl) (sret_any k okk _) (fun w12 hw a hA => ?_)
      replace HB := HB.trans (hw.mono HB.size)
      replace HH := HH.below hw
      replace TT := TT.below hw
      replace A6 := A6.below hw
      replace A7 := A7.below hw
      clear hw
      refine W_allocH hA rfl 8 rfl (by decide) rfl (fun w13 bA8 a hA hb A8 gA8 => ?_)
      have nHHA8 : bHH < bA8 := by have := HH.lt; omega
      have nTTA8 : bTT < bA8 := by have := TT.lt; omega
      have nA6A8 : bA6 < bA8 := by have := A6.lt; omega
      have nA7A8 : bA7 < bA8 := by have := A7.lt; omega
      replace gA8 := Nat.le_trans HB.size gA8
      replace HB := HB.trans (hb.mono HB.size)
      replace HH := HH.below hb
      replace TT := TT.below hb
      replace A6 := A6.below hb
      replace A7 := A7.below hb
      clear hb
      refine W_cpH hA rfl rfl rfl rfl rfl A8 (fun w14 hT HN => ?_)
      replace HB := HB.trans (hT.bel _ gA8)
      replace HH := hT.hart HH (by omega)
      replace TT := hT.ts TT (by omega)
      replace A6 := hT.hart A6 (by omega)
      replace A7 := hT.hart A7 (by omega)
      replace A8 := HN
      clear hT HN
      refine W_nil ?_
      refine then_nrm ?_
      show Code.wp Try.prog _ _ _ _
      refine wp_seq ?_
      refine wp_region_list ?_
      refine W_val hA rfl 47 rfl (by decide) _ _ (R_row hA rfl rfl A6 Try.underlying25 (size_hart.trans (by rw [varr_size]))) (fun a hA => ?_)
      refine W_callA hA (by decide) (fun _ _ => by kernel_rfl) (args1 hA rfl) (legal_yes okk lgk _) (fun w15 hw a hA => ?_)
      replace HB := HB.trans (hw.mono HB.size)
      replace HH := HH.below hw
      replace TT := TT.below hw
      replace A6 := A6.below hw
      replace A7 := A7.below hw
      replace A8 := A8.below hw
      clear hw
      refine W_val hA rfl 49 rfl (by decide) _ _ (R_mov hA rfl rfl _) (fun a hA => ?_)
      refine W_gval hA rfl rfl rfl 50 rfl (by decide) _ _ (R_row hA rfl rfl A7 Try.underlying25 (size_hart.trans (by rw [varr_size]))) (fun a hA => ?_)
      refine W_gcallB hA rfl rfl (by decide) (fun _ _ => by kernel_rfl) (args1 hA rfl) (legal_yes (ok_mret okk) (legal_mret okk lgk) _) (fun w16 hw a hA => ?_)
      replace HB := HB.trans (hw.mono HB.size)
      replace HH := HH.below hw
      replace TT := TT.below hw
      replace A6 := A6.below hw
      replace A7 := A7.below hw
      replace A8 := A8.below hw
      clear hw
      refine W_val hA rfl 52 rfl (by decide) _ _ (R_pick hA rfl rfl rfl _) (fun a hA => ?_)
      refine W_val hA rfl 53 rfl (by decide) _ _ (R_mov hA rfl rfl _) (fun a hA => ?_)
      refine W_gval hA rfl rfl rfl 54 rfl (by decide) _ _ (R_row hA rfl rfl A8 Try.underlying25 (size_hart.trans (by rw [varr_size]))) (fun a hA => ?_)
      refine W_gcallB hA rfl rfl (by decide) (fun _ _ => by kernel_rfl) (args1 hA rfl) (legal_yes (ok_sret okk) (legal_sret okk lgk) _) (fun w17 hw a hA => ?_)
      replace HB := HB.trans (hw.mono HB.size)
      replace HH := HH.below hw
      replace TT := TT.below hw
      replace A6 := A6.below hw
      replace A7 := A7.below hw
      replace A8 := A8.below hw
      clear hw
      refine W_val hA rfl 56 rfl (by decide) _ _ (R_pick hA rfl rfl rfl _) (fun a hA => ?_)
      refine W_val hA rfl 57 rfl (by decide) _ _ (R_mov hA rfl rfl _) (fun a hA => ?_)
      refine W_gcallB hA rfl rfl (by decide) (fun _ _ => by kernel_rfl) (args0 ) (wakes_any _) (fun w18 hw a hA => ?_)
      replace HB := HB.trans (hw.mono HB.size)
      replace HH := HH.below hw
      replace TT := TT.below hw
      replace A6 := A6.below hw
      replace A7 := A7.below hw
      replace A8 := A8.below hw
      clear hw
      refine W_val hA rfl 59 rfl (by decide) _ _ (R_pick hA rfl rfl rfl _) (fun a hA => ?_)
      refine W_val hA rfl 4 rfl (by decide) _ _ (R_asg hA rfl rfl _) (fun a hA => ?_)
      refine W_nil ?_
      refine then_nrm ?_
      show Code.wp Try.prog _ _ _ _
      refine wp_ret ?_
      exact ret_tmp (j := 4) (by kernel_rfl) hA (by decide) rfl ⟨rfl, HB⟩
    refine W_gskip hA rfl rfl rfl 27 rfl (by decide) (fun a hA => ?_)
    refine W_gskip hA rfl rfl rfl 28 rfl (by decide) (fun a hA => ?_)
    refine W_gval hA rfl rfl rfl 29 rfl (by decide) _ _ (R_pick hA rfl rfl rfl _) (fun a hA => ?_)
    refine W_val hA rfl 30 rfl (by decide) _ _ (R_pick hA rfl rfl rfl _) (fun a hA => ?_)
    refine W_nil ?_
    refine then_nrm ?_
    show Code.wp Try.prog _ _ _ _
    refine wp_cond_false (hA.ev (x := .tmp 30) rfl) ?_
    refine wp_skip ?_
    refine then_nrm ?_
    show Code.wp Try.prog _ _ _ _
    refine wp_seq ?_
    refine wp_region_list ?_
    refine W_val hA rfl 31 rfl (by decide) _ _ (R_row hA rfl rfl HH Try.underlying25 (size_hart.trans (by rw [varr_size]))) (fun a hA => ?_)
    refine W_val hA rfl 32 rfl (by decide) _ _ (R_row hA rfl rfl TT Try.underlying27 (size_ts _)) (fun a hA => ?_)
    refine W_callA hA (by decide) (fun _ _ => by kernel_rfl) (args2 hA rfl rfl) (enter_to okf sk hk _) (fun w19 hw a hA => ?_)
    replace HB := HB.trans (hw.mono HB.size)
    replace HH := HH.below hw
    replace TT := TT.below hw
    clear hw
    refine W_allocH hA rfl 6 rfl (by decide) rfl (fun w20 bA6 a hA hb A6 gA6 => ?_)
    have nHHA6 : bHH < bA6 := by have := HH.lt; omega
    have nTTA6 : bTT < bA6 := by have := TT.lt; omega
    replace gA6 := Nat.le_trans HB.size gA6
    replace HB := HB.trans (hb.mono HB.size)
    replace HH := HH.below hb
    replace TT := TT.below hb
    clear hb
    refine W_cpH hA rfl rfl rfl rfl rfl A6 (fun w21 hT HN => ?_)
    replace HB := HB.trans (hT.bel _ gA6)
    replace HH := hT.hart HH (by omega)
    replace TT := hT.ts TT (by omega)
    replace A6 := HN
    clear hT HN
    refine W_nil ?_
    refine then_nrm ?_
    show Code.wp Try.prog _ _ _ _
    refine wp_seq ?_
    refine wp_seq ?_
    refine wp_region_list ?_
    refine W_val hA rfl 34 rfl (by decide) _ _ (R_fa hA rfl rfl (fun w => fa_ts _ 0 (by decide) w) _) (fun a hA => ?_)
    refine W_val hA rfl 35 rfl (by decide) _ _ (R_ld (v := .bool true) hA rfl rfl ag_bool ((TsB.cell TT 0 (.bool s.is) rfl).trans (by rw [his]))) (fun a hA => ?_)
    refine W_val hA rfl 36 rfl (by decide) _ _ (R_not hA rfl rfl _) (fun a hA => ?_)
    refine W_nil ?_
    refine then_nrm ?_
    show Code.wp Try.prog _ _ _ _
    refine wp_cond_false (hA.ev (x := .tmp 36) rfl) ?_
    refine wp_skip ?_
    refine then_nrm ?_
    show Code.wp Try.prog _ _ _ _
    refine wp_seq ?_
    refine wp_region_list ?_
    refine W_val hA rfl 43 rfl (by decide) _ _ (R_row hA rfl rfl A6 Try.underlying25 (size_hart.trans (by rw [varr_size]))) (fun a hA => ?_)
    refine W_callA hA (by decide) (fun _ _ => by kernel_rfl) (args1 hA rfl) (mret_any k okk _) (fun w22 hw a hA => ?_)
    replace HB := HB.trans (hw.mono HB.size)
    replace HH := HH.below hw
    replace TT := TT.below hw
    replace A6 := A6.below hw
    clear hw
    refine W_allocH hA rfl 7 rfl (by decide) rfl (fun w23 bA7 a hA hb A7 gA7 => ?_)
    have nHHA7 : bHH < bA7 := by have := HH.lt; omega
    have nTTA7 : bTT < bA7 := by have := TT.lt; omega
    have nA6A7 : bA6 < bA7 := by have := A6.lt; omega
    replace gA7 := Nat.le_trans HB.size gA7
    replace HB := HB.trans (hb.mono HB.size)
    replace HH := HH.below hb
    replace TT := TT.below hb
    replace A6 := A6.below hb
    clear hb
    refine W_cpH hA rfl rfl rfl rfl rfl A7 (fun w24 hT HN => ?_)
    replace HB := HB.trans (hT.bel _ gA7)
    replace HH := hT.hart HH (by omega)
    replace TT := hT.ts TT (by omega)
    replace A6 := hT.hart A6 (by omega)
    replace A7 := HN
    clear hT HN
    refine W_nil ?_
    refine then_nrm ?_
    show Code.wp Try.prog _ _ _ _
    refine wp_seq ?_
    refine wp_region_list ?_
    refine W_val hA rfl 45 rfl (by decide) _ _ (R_row hA rfl rfl A6 Try.underlying25 (size_hart.trans (by rw [varr_size]))) (fun a hA => ?_)
    refine W_callA hA (by decide) (fun _ _ => by kernel_rfl) (args1 hA rfl) (sret_any k okk _) (fun w25 hw a hA => ?_)
    replace HB := HB.trans (hw.mono HB.size)
    replace HH := HH.below hw
    replace TT := TT.below hw
    replace A6 := A6.below hw
    replace A7 := A7.below hw
    clear hw
    refine W_allocH hA rfl 8 rfl (by decide) rfl (fun w26 bA8 a hA hb A8 gA8 => ?_)
    have nHHA8 : bHH < bA8 := by have := HH.lt; omega
    have nTTA8 : bTT < bA8 := by have := TT.lt; omega
    have nA6A8 : bA6 < bA8 := by have := A6.lt; omega
    have nA7A8 : bA7 < bA8 := by have := A7.lt; omega
    replace gA8 := Nat.le_trans HB.size gA8
    replace HB := HB.trans (hb.mono HB.size)
    replace HH := HH.below hb
    replace TT := TT.below hb
    replace A6 := A6.below hb
    replace A7 := A7.below hb
    clear hb
    refine W_cpH hA rfl rfl rfl rfl rfl A8 (fun w27 hT HN => ?_)
    replace HB := HB.trans (hT.bel _ gA8)
    replace HH := hT.hart HH (by omega)
    replace TT := hT.ts TT (by omega)
    replace A6 := hT.hart A6 (by omega)
    replace A7 := hT.hart A7 (by omega)
    replace A8 := HN
    clear hT HN
    refine W_nil ?_
    refine then_nrm ?_
    show Code.wp Try.prog _ _ _ _
    refine wp_seq ?_
    refine wp_region_list ?_
    refine W_val hA rfl 47 rfl (by decide) _ _ (R_row hA rfl rfl A6 Try.underlying25 (size_hart.trans (by rw [varr_size]))) (fun a hA => ?_)
    refine W_callA hA (by decide) (fun _ _ => by kernel_rfl) (args1 hA rfl) (legal_yes okk lgk _) (fun w28 hw a hA => ?_)
    replace HB := HB.trans (hw.mono HB.size)
    replace HH := HH.below hw
    replace TT := TT.below hw
    replace A6 := A6.below hw
    replace A7 := A7.below hw
    replace A8 := A8.below hw
    clear hw
    refine W_val hA rfl 49 rfl (by decide) _ _ (R_mov hA rfl rfl _) (fun a hA => ?_)
    refine W_gval hA rfl rfl rfl 50 rfl (by decide) _ _ (R_row hA rfl rfl A7 Try.underlying25 (size_hart.trans (by rw [varr_size]))) (fun a hA => ?_)
    refine W_gcallB hA rfl rfl (by decide) (fun _ _ => by kernel_rfl) (args1 hA rfl) (legal_yes (ok_mret okk) (legal_mret okk lgk) _) (fun w29 hw a hA => ?_)
    replace HB := HB.trans (hw.mono HB.size)
    replace HH := HH.below hw
    replace TT := TT.below hw
    replace A6 := A6.below hw
    replace A7 := A7.below hw
    replace A8 := A8.below hw
    clear hw
    refine W_val hA rfl 52 rfl (by decide) _ _ (R_pick hA rfl rfl rfl _) (fun a hA => ?_)
    refine W_val hA rfl 53 rfl (by decide) _ _ (R_mov hA rfl rfl _) (fun a hA => ?_)
    refine W_gval hA rfl rfl rfl 54 rfl (by decide) _ _ (R_row hA rfl rfl A8 Try.underlying25 (size_hart.trans (by rw [varr_size]))) (fun a hA => ?_)
    refine W_gcallB hA rfl rfl (by decide) (fun _ _ => by kernel_rfl) (args1 hA rfl) (legal_yes (ok_sret okk) (legal_sret okk lgk) _) (fun w30 hw a hA => ?_)
    replace HB := HB.trans (hw.mono HB.size)
    replace HH := HH.below hw
    replace TT := TT.below hw
    replace A6 := A6.below hw
    replace A7 := A7.below hw
    replace A8 := A8.below hw
    clear hw
    refine W_val hA rfl 56 rfl (by decide) _ _ (R_pick hA rfl rfl rfl _) (fun a hA => ?_)
    refine W_val hA rfl 57 rfl (by decide) _ _ (R_mov hA rfl rfl _) (fun a hA => ?_)
    refine W_gcallB hA rfl rfl (by decide) (fun _ _ => by kernel_rfl) (args0 ) (wakes_any _) (fun w31 hw a hA => ?_)
    replace HB := HB.trans (hw.mono HB.size)
    replace HH := HH.below hw
    replace TT := TT.below hw
    replace A6 := A6.below hw
    replace A7 := A7.below hw
    replace A8 := A8.below hw
    clear hw
    refine W_val hA rfl 59 rfl (by decide) _ _ (R_pick hA rfl rfl rfl _) (fun a hA => ?_)
    refine W_val hA rfl 4 rfl (by decide) _ _ (R_asg hA rfl rfl _) (fun a hA => ?_)
    refine W_nil ?_
    refine then_nrm ?_
    show Code.wp Try.prog _ _ _ _
    refine wp_ret ?_
    exact ret_tmp (j := 4) (by kernel_rfl) hA (by decide) rfl ⟨rfl, HB⟩
  refine W_gskip hA rfl rfl rfl 19 rfl (by decide) (fun a hA => ?_)
  refine W_gskip hA rfl rfl rfl 20 rfl (by decide) (fun a hA => ?_)
  refine W_val hA rfl 21 rfl (by decide) _ _ (R_pick hA rfl rfl rfl _) (fun a hA => ?_)
  refine W_val hA rfl 22 rfl (by decide) _ _ (R_mov hA rfl rfl _) (fun a hA => ?_)
  refine W_gval hA rfl rfl rfl 23 rfl (by decide) _ _ (R_fa hA rfl rfl (fun w => fa_hart _ 3 34 (by decide) rfl w) _) (fun a hA => ?_)
  refine W_gval hA rfl rfl rfl 24 rfl (by decide) _ _ (R_ld (v := .bool (f.v)) hA rfl rfl ag_bool HH.v) (fun a hA => ?_)
  refine W_gval hA rfl rfl rfl 25 rfl (by decide) _ _ (R_not hA rfl rfl _) (fun a hA => ?_)
  refine W_gval hA rfl rfl rfl 26 rfl (by decide) _ _ (R_mov hA rfl rfl _) (fun a hA => ?_)
  refine W_split hA 26 rfl (fun c3 hA => ?_) (fun c3 hA => ?_)
  · skip
    refine W_gval hA rfl rfl rfl 27 rfl (by decide) _ _ (R_mov hA rfl rfl _) (fun a hA => ?_)
    refine W_gval hA rfl rfl rfl 28 rfl (by decide) _ _ (R_eqlIT hA rfl rfl rfl false (by decide) _) (fun a hA => ?_)
    refine W_gval hA rfl rfl rfl 29 rfl (by decide) _ _ (R_pick hA rfl rfl rfl _) (fun a hA => ?_)
    refine W_val hA rfl 30 rfl (by decide) _ _ (R_pick hA rfl rfl rfl _) (fun a hA => ?_)
    refine W_nil ?_
    refine then_nrm ?_
    show Code.wp Try.prog _ _ _ _
    refine wp_cond_false (hA.ev (x := .tmp 30) rfl) ?_
    refine wp_skip ?_
    refine then_nrm ?_
    show Code.wp Try.prog _ _ _ _
    refine wp_seq ?_
    refine wp_region_list ?_
    refine W_val hA rfl 31 rfl (by decide) _ _ (R_row hA rfl rfl HH Try.underlying25 (size_hart.trans (by rw [varr_size]))) (fun a hA => ?_)
    refine W_val hA rfl 32 rfl (by decide) _ _ (R_row hA rfl rfl TT Try.underlying27 (size_ts _)) (fun a hA => ?_)
    refine W_callA hA (by decide) (fun _ _ => by kernel_rfl) (args2 hA rfl rfl) (enter_to okf sk hk _) (fun w32 hw a hA => ?_)
    replace HB := HB.trans (hw.mono HB.size)
    replace HH := HH.below hw
    replace TT := TT.below hw
    clear hw
    refine W_allocH hA rfl 6 rfl (by decide) rfl (fun w33 bA6 a hA hb A6 gA6 => ?_)
    have nHHA6 : bHH < bA6 := by have := HH.lt; omega
    have nTTA6 : bTT < bA6 := by have := TT.lt; omega
    replace gA6 := Nat.le_trans HB.size gA6
    replace HB := HB.trans (hb.mono HB.size)
    replace HH := HH.below hb
    replace TT := TT.below hb
    clear hb
    refine W_cpH hA rfl rfl rfl rfl rfl A6 (fun w34 hT HN => ?_)
    replace HB := HB.trans (hT.bel _ gA6)
    replace HH := hT.hart HH (by omega)
    replace TT := hT.ts TT (by omega)
    replace A6 := HN
    clear hT HN
    refine W_nil ?_
    refine then_nrm ?_
    show Code.wp Try.prog _ _ _ _
    refine wp_seq ?_
    refine wp_seq ?_
    refine wp_region_list ?_
    refine W_val hA rfl 34 rfl (by decide) _ _ (R_fa hA rfl rfl (fun w => fa_ts _ 0 (by decide) w) _) (fun a hA => ?_)
    refine W_val hA rfl 35 rfl (by decide) _ _ (R_ld (v := .bool true) hA rfl rfl ag_bool ((TsB.cell TT 0 (.bool s.is) rfl).trans (by rw [his]))) (fun a hA => ?_)
    refine W_val hA rfl 36 rfl (by decide) _ _ (R_not hA rfl rfl _) (fun a hA => ?_)
    refine W_nil ?_
    refine then_nrm ?_
    show Code.wp Try.prog _ _ _ _
    refine wp_cond_false (hA.ev (x := .tmp 36) rfl) ?_
    refine wp_skip ?_
    refine then_nrm ?_
    show Code.wp Try.prog _ _ _ _
    refine wp_seq ?_
    refine wp_region_list ?_
    refine W_val hA rfl 43 rfl (by decide) _ _ (R_row hA rfl rfl A6 Try.underlying25 (size_hart.trans (by rw [varr_size]))) (fun a hA => ?_)
    refine W_callA hA (by decide) (fun _ _ => by kernel_rfl) (args1 hA rfl) (mret_any k okk _) (fun w35 hw a hA => ?_)
    replace HB := HB.trans (hw.mono HB.size)
    replace HH := HH.below hw
    replace TT := TT.below hw
    replace A6 := A6.below hw
    clear hw
    refine W_allocH hA rfl 7 rfl (by decide) rfl (fun w36 bA7 a hA hb A7 gA7 => ?_)
    have nHHA7 : bHH < bA7 := by have := HH.lt; omega
    have nTTA7 : bTT < bA7 := by have := TT.lt; omega
    have nA6A7 : bA6 < bA7 := by have := A6.lt; omega
    replace gA7 := Nat.le_trans HB.size gA7
    replace HB := HB.trans (hb.mono HB.size)
    replace HH := HH.below hb
    replace TT := TT.below hb
    replace A6 := A6.below hb
    clear hb
    refine W_cpH hA rfl rfl rfl rfl rfl A7 (fun w37 hT HN => ?_)
    replace HB := HB.trans (hT.bel _ gA7)
    replace HH := hT.hart HH (by omega)
    replace TT := hT.ts TT (by omega)
    replace A6 := hT.hart A6 (by omega)
    replace A7 := HN
    clear hT HN
    refine W_nil ?_
    refine then_nrm ?_
    show Code.wp Try.prog _ _ _ _
    refine wp_seq ?_
    refine wp_region_list ?_
    refine W_val hA rfl 45 rfl (by decide) _ _ (R_row hA rfl rfl A6 Try.underlying25 (size_hart.trans (by rw [varr_size]))) (fun a hA => ?_)
    refine W_callA hA (by decide) (fun _ _ => by kernel_rfl) (args1 hA rfl) (sret_any k okk _) (fun w38 hw a hA => ?_)
    replace HB := HB.trans (hw.mono HB.size)
    replace HH := HH.below hw
    replace TT := TT.below hw
    replace A6 := A6.below hw
    replace A7 := A7.below hw
    clear hw
    refine W_allocH hA rfl 8 rfl (by decide) rfl (fun w39 bA8 a hA hb A8 gA8 => ?_)
    have nHHA8 : bHH < bA8 := by have := HH.lt; omega
    have nTTA8 : bTT < bA8 := by have := TT.lt; omega
    have nA6A8 : bA6 < bA8 := by have := A6.lt; omega
    have nA7A8 : bA7 < bA8 := by have := A7.lt; omega
    replace gA8 := Nat.le_trans HB.size gA8
    replace HB := HB.trans (hb.mono HB.size)
    replace HH := HH.below hb
    replace TT := TT.below hb
    replace A6 := A6.below hb
    replace A7 := A7.below hb
    clear hb
    refine W_cpH hA rfl rfl rfl rfl rfl A8 (fun w40 hT HN => ?_)
    replace HB := HB.trans (hT.bel _ gA8)
    replace HH := hT.hart HH (by omega)
    replace TT := hT.ts TT (by omega)
    replace A6 := hT.hart A6 (by omega)
    replace A7 := hT.hart A7 (by omega)
    replace A8 := HN
    clear hT HN
    refine W_nil ?_
    refine then_nrm ?_
    show Code.wp Try.prog _ _ _ _
    refine wp_seq ?_
    refine wp_region_list ?_
    refine W_val hA rfl 47 rfl (by decide) _ _ (R_row hA rfl rfl A6 Try.underlying25 (size_hart.trans (by rw [varr_size]))) (fun a hA => ?_)
    refine W_callA hA (by decide) (fun _ _ => by kernel_rfl) (args1 hA rfl) (legal_yes okk lgk _) (fun w41 hw a hA => ?_)
    replace HB := HB.trans (hw.mono HB.size)
    replace HH := HH.below hw
    replace TT := TT.below hw
    replace A6 := A6.below hw
    replace A7 := A7.below hw
    replace A8 := A8.below hw
    clear hw
    refine W_val hA rfl 49 rfl (by decide) _ _ (R_mov hA rfl rfl _) (fun a hA => ?_)
    refine W_gval hA rfl rfl rfl 50 rfl (by decide) _ _ (R_row hA rfl rfl A7 Try.underlying25 (size_hart.trans (by rw [varr_size]))) (fun a hA => ?_)
    refine W_gcallB hA rfl rfl (by decide) (fun _ _ => by kernel_rfl) (args1 hA rfl) (legal_yes (ok_mret okk) (legal_mret okk lgk) _) (fun w42 hw a hA => ?_)
    replace HB := HB.trans (hw.mono HB.size)
    replace HH := HH.below hw
    replace TT := TT.below hw
    replace A6 := A6.below hw
    replace A7 := A7.below hw
    replace A8 := A8.below hw
    clear hw
    refine W_val hA rfl 52 rfl (by decide) _ _ (R_pick hA rfl rfl rfl _) (fun a hA => ?_)
    refine W_val hA rfl 53 rfl (by decide) _ _ (R_mov hA rfl rfl _) (fun a hA => ?_)
    refine W_gval hA rfl rfl rfl 54 rfl (by decide) _ _ (R_row hA rfl rfl A8 Try.underlying25 (size_hart.trans (by rw [varr_size]))) (fun a hA => ?_)
    refine W_gcallB hA rfl rfl (by decide) (fun _ _ => by kernel_rfl) (args1 hA rfl) (legal_yes (ok_sret okk) (legal_sret okk lgk) _) (fun w43 hw a hA => ?_)
    replace HB := HB.trans (hw.mono HB.size)
    replace HH := HH.below hw
    replace TT := TT.below hw
    replace A6 := A6.below hw
    replace A7 := A7.below hw
    replace A8 := A8.below hw
    clear hw
    refine W_val hA rfl 56 rfl (by decide) _ _ (R_pick hA rfl rfl rfl _) (fun a hA => ?_)
    refine W_val hA rfl 57 rfl (by decide) _ _ (R_mov hA rfl rfl _) (fun a hA => ?_)
    refine W_gcallB hA rfl rfl (by decide) (fun _ _ => by kernel_rfl) (args0 ) (wakes_any _) (fun w44 hw a hA => ?_)
    replace HB := HB.trans (hw.mono HB.size)
    replace HH := HH.below hw
    replace TT := TT.below hw
    replace A6 := A6.below hw
    replace A7 := A7.below hw
    replace A8 := A8.below hw
    clear hw
    refine W_val hA rfl 59 rfl (by decide) _ _ (R_pick hA rfl rfl rfl _) (fun a hA => ?_)
    refine W_val hA rfl 4 rfl (by decide) _ _ (R_asg hA rfl rfl _) (fun a hA => ?_)
    refine W_nil ?_
    refine then_nrm ?_
    show Code.wp Try.prog _ _ _ _
    refine wp_ret ?_
    exact ret_tmp (j := 4) (by kernel_rfl) hA (by decide) rfl ⟨rfl, HB⟩
  refine W_gskip hA rfl rfl rfl 27 rfl (by decide) (fun a hA => ?_)
  refine W_gskip hA rfl rfl rfl 28 rfl (by decide) (fun a hA => ?_)
  refine W_gval hA rfl rfl rfl 29 rfl (by decide) _ _ (R_pick hA rfl rfl rfl _) (fun a hA => ?_)
  refine W_val hA rfl 30 rfl (by decide) _ _ (R_pick hA rfl rfl rfl _) (fun a hA => ?_)
  refine W_nil ?_
  refine then_nrm ?_
  show Code.wp Try.prog _ _ _ _
  refine wp_cond_false (hA.ev (x := .tmp 30) rfl) ?_
  refine wp_skip ?_
  refine then_nrm ?_
  show Code.wp Try.prog _ _ _ _
  refine wp_seq ?_
  refine wp_region_list ?_
  refine W_val hA rfl 31 rfl (by decide) _ _ (R_row hA rfl rfl HH Try.underlying25 (size_hart.trans (by rw [varr_size]))) (fun a hA => ?_)
  refine W_val hA rfl 32 rfl (by decide) _ _ (R_row hA rfl rfl TT Try.underlying27 (size_ts _)) (fun a hA => ?_)
  refine W_callA hA (by decide) (fun _ _ => by kernel_rfl) (args2 hA rfl rfl) (enter_to okf sk hk _) (fun w45 hw a hA => ?_)
  replace HB := HB.trans (hw.mono HB.size)
  replace HH := HH.below hw
  replace TT := TT.below hw
  clear hw
  refine W_allocH hA rfl 6 rfl (by decide) rfl (fun w46 bA6 a hA hb A6 gA6 => ?_)
  have nHHA6 : bHH < bA6 := by have := HH.lt; omega
  have nTTA6 : bTT < bA6 := by have := TT.lt; omega
  replace gA6 := Nat.le_trans HB.size gA6
  replace HB := HB.trans (hb.mono HB.size)
  replace HH := HH.below hb
  replace TT := TT.below hb
  clear hb
  refine W_cpH hA rfl rfl rfl rfl rfl A6 (fun w47 hT HN => ?_)
  replace HB := HB.trans (hT.bel _ gA6)
  replace HH := hT.hart HH (by omega)
  replace TT := hT.ts TT (by omega)
  replace A6 := HN
  clear hT HN
  refine W_nil ?_
  refine then_nrm ?_
  show Code.wp Try.prog _ _ _ _
  refine wp_seq ?_
  refine wp_seq ?_
  refine wp_region_list ?_
  refine W_val hA rfl 34 rfl (by decide) _ _ (R_fa hA rfl rfl (fun w => fa_ts _ 0 (by decide) w) _) (fun a hA => ?_)
  refine W_val hA rfl 35 rfl (by decide) _ _ (R_ld (v := .bool true) hA rfl rfl ag_bool ((TsB.cell TT 0 (.bool s.is) rfl).trans (by rw [his]))) (fun a hA => ?_)
  refine W_val hA rfl 36 rfl (by decide) _ _ (R_not hA rfl rfl _) (fun a hA => ?_)
  refine W_nil ?_
  refine then_nrm ?_
  show Code.wp Try.prog _ _ _ _
  refine wp_cond_false (hA.ev (x := .tmp 36) rfl) ?_
  refine wp_skip ?_
  refine then_nrm ?_
  show Code.wp Try.prog _ _ _ _
  refine wp_seq ?_
  refine wp_region_list ?_
  refine W_val hA rfl 43 rfl (by decide) _ _ (R_row hA rfl rfl A6 Try.underlying25 (size_hart.trans (by rw [varr_size]))) (fun a hA => ?_)
  refine W_callA hA (by decide) (fun _ _ => by kernel_rfl) (args1 hA rfl) (mret_any k okk _) (fun w48 hw a hA => ?_)
  replace HB := HB.trans (hw.mono HB.size)
  replace HH := HH.below hw
  replace TT := TT.below hw
  replace A6 := A6.below hw
  clear hw
  refine W_allocH hA rfl 7 rfl (by decide) rfl (fun w49 bA7 a hA hb A7 gA7 => ?_)
  have nHHA7 : bHH < bA7 := by have := HH.lt; omega
  have nTTA7 : bTT < bA7 := by have := TT.lt; omega
  have nA6A7 : bA6 < bA7 := by have := A6.lt; omega
  replace gA7 := Nat.le_trans HB.size gA7
  replace HB := HB.trans (hb.mono HB.size)
  replace HH := HH.below hb
  replace TT := TT.below hb
  replace A6 := A6.below hb
  clear hb
  refine W_cpH hA rfl rfl rfl rfl rfl A7 (fun w50 hT HN => ?_)
  replace HB := HB.trans (hT.bel _ gA7)
  replace HH := hT.hart HH (by omega)
  replace TT := hT.ts TT (by omega)
  replace A6 := hT.hart A6 (by omega)
  replace A7 := HN
  clear hT HN
  refine W_nil ?_
  refine then_nrm ?_
  show Code.wp Try.prog _ _ _ _
  refine wp_seq ?_
  refine wp_region_list ?_
  refine W_val hA rfl 45 rfl (by decide) _ _ (R_row hA rfl rfl A6 Try.underlying25 (size_hart.trans (by rw [varr_size]))) (fun a hA => ?_)
  refine W_callA hA (by decide) (fun _ _ => by kernel_rfl) (args1 hA rfl) (sret_any k okk _) (fun w51 hw a hA => ?_)
  replace HB := HB.trans (hw.mono HB.size)
  replace HH := HH.below hw
  replace TT := TT.below hw
  replace A6 := A6.below hw
  replace A7 := A7.below hw
  clear hw
  refine W_allocH hA rfl 8 rfl (by decide) rfl (fun w52 bA8 a hA hb A8 gA8 => ?_)
  have nHHA8 : bHH < bA8 := by have := HH.lt; omega
  have nTTA8 : bTT < bA8 := by have := TT.lt; omega
  have nA6A8 : bA6 < bA8 := by have := A6.lt; omega
  have nA7A8 : bA7 < bA8 := by have := A7.lt; omega
  replace gA8 := Nat.le_trans HB.size gA8
  replace HB := HB.trans (hb.mono HB.size)
  replace HH := HH.below hb
  replace TT := TT.below hb
  replace A6 := A6.below hb
  replace A7 := A7.below hb
  clear hb
  refine W_cpH hA rfl rfl rfl rfl rfl A8 (fun w53 hT HN => ?_)
  replace HB := HB.trans (hT.bel _ gA8)
  replace HH := hT.hart HH (by omega)
  replace TT := hT.ts TT (by omega)
  replace A6 := hT.hart A6 (by omega)
  replace A7 := hT.hart A7 (by omega)
  replace A8 := HN
  clear hT HN
  refine W_nil ?_
  refine then_nrm ?_
  show Code.wp Try.prog _ _ _ _
  refine wp_seq ?_
  refine wp_region_list ?_
  refine W_val hA rfl 47 rfl (by decide) _ _ (R_row hA rfl rfl A6 Try.underlying25 (size_hart.trans (by rw [varr_size]))) (fun a hA => ?_)
  refine W_callA hA (by decide) (fun _ _ => by kernel_rfl) (args1 hA rfl) (legal_yes okk lgk _) (fun w54 hw a hA => ?_)
  replace HB := HB.trans (hw.mono HB.size)
  replace HH := HH.below hw
  replace TT := TT.below hw
  replace A6 := A6.below hw
  replace A7 := A7.below hw
  replace A8 := A8.below hw
  clear hw
  refine W_val hA rfl 49 rfl (by decide) _ _ (R_mov hA rfl rfl _) (fun a hA => ?_)
  refine W_gval hA rfl rfl rfl 50 rfl (by decide) _ _ (R_row hA rfl rfl A7 Try.underlying25 (size_hart.trans (by rw [varr_size]))) (fun a hA => ?_)
  refine W_gcallB hA rfl rfl (by decide) (fun _ _ => by kernel_rfl) (args1 hA rfl) (legal_yes (ok_mret okk) (legal_mret okk lgk) _) (fun w55 hw a hA => ?_)
  replace HB := HB.trans (hw.mono HB.size)
  replace HH := HH.below hw
  replace TT := TT.below hw
  replace A6 := A6.below hw
  replace A7 := A7.below hw
  replace A8 := A8.below hw
  clear hw
  refine W_val hA rfl 52 rfl (by decide) _ _ (R_pick hA rfl rfl rfl _) (fun a hA => ?_)
  refine W_val hA rfl 53 rfl (by decide) _ _ (R_mov hA rfl rfl _) (fun a hA => ?_)
  refine W_gval hA rfl rfl rfl 54 rfl (by decide) _ _ (R_row hA rfl rfl A8 Try.underlying25 (size_hart.trans (by rw [varr_size]))) (fun a hA => ?_)
  refine W_gcallB hA rfl rfl (by decide) (fun _ _ => by kernel_rfl) (args1 hA rfl) (legal_yes (ok_sret okk) (legal_sret okk lgk) _) (fun w56 hw a hA => ?_)
  replace HB := HB.trans (hw.mono HB.size)
  replace HH := HH.below hw
  replace TT := TT.below hw
  replace A6 := A6.below hw
  replace A7 := A7.below hw
  replace A8 := A8.below hw
  clear hw
  refine W_val hA rfl 56 rfl (by decide) _ _ (R_pick hA rfl rfl rfl _) (fun a hA => ?_)
  refine W_val hA rfl 57 rfl (by decide) _ _ (R_mov hA rfl rfl _) (fun a hA => ?_)
  refine W_gcallB hA rfl rfl (by decide) (fun _ _ => by kernel_rfl) (args0 ) (wakes_any _) (fun w57 hw a hA => ?_)
  replace HB := HB.trans (hw.mono HB.size)
  replace HH := HH.below hw
  replace TT := TT.below hw
  replace A6 := A6.below hw
  replace A7 := A7.below hw
  replace A8 := A8.below hw
  clear hw
  refine W_val hA rfl 59 rfl (by decide) _ _ (R_pick hA rfl rfl rfl _) (fun a hA => ?_)
  refine W_val hA rfl 4 rfl (by decide) _ _ (R_asg hA rfl rfl _) (fun a hA => ?_)
  refine W_nil ?_
  refine then_nrm ?_
  show Code.wp Try.prog _ _ _ _
  refine wp_ret ?_
  exact ret_tmp (j := 4) (by kernel_rfl) hA (by decide) rfl ⟨rfl, HB⟩
set_option maxHeartbeats 8000000 in
theorem trapUp_1y (t : HS) (s : TS) (f k : HS) (w : World) (ok : HOk t) (sk : TOk s) (hf : fixZ t = f) (okf : HOk f) (okk : HOk k) (lgk : Lgl k) (his : s.is = true) (hk : enterZ f s = k) (z : toZ f s.c = 1) (h33 : ¬ f.n 33 = 3) : Calls Try.prog 6 #[hartV t, tsV s] w fun e w' => e = .returned (.bool true) ∧ Below w.heap.size w w' := by
  have HB := Below.refl w.heap.size w
  go_enter Try.func6, Try.ntmps6
  refine begin_fr [(1, tsV s), (0, hartV t)] 60 ?_ (fun a hA => ?_)
  · exact FrA.add (FrA.add (FrA.nil (by rfl) (by rfl)) 0 _ (by rfl)) 1 _ (by rfl)
  refine wp_seq ?_
  refine wp_region_list ?_
  refine W_boxH hA rfl 2 rfl (by decide) rfl rfl (fun w1 bHH a hA hb HH gHH => ?_)
  replace gHH := Nat.le_trans HB.size gHH
  replace HB := HB.trans (hb.mono HB.size)
  clear hb
  refine W_boxT hA rfl 3 rfl (by decide) rfl rfl (fun w2 bTT a hA hb TT gTT => ?_)
  have nHHTT : bHH < bTT := by have := HH.lt; omega
  replace gTT := Nat.le_trans HB.size gTT
  replace HB := HB.trans (hb.mono HB.size)
  replace HH := HH.below hb
  clear hb
  refine W_val hA rfl 4 rfl (by decide) _ _ (R_asg hA rfl rfl _) (fun a hA => ?_)
  refine W_nil ?_
  refine then_nrm ?_
  show Code.wp Try.prog _ _ _ _
  refine wp_seq ?_
  refine wp_region_list ?_
  refine W_val hA rfl 9 rfl (by decide) _ _ (R_row hA rfl rfl HH Try.underlying25 (size_hart.trans (by rw [varr_size]))) (fun a hA => ?_)
  refine W_callA hA (by decide) (fun _ _ => by kernel_rfl) (args1 hA rfl) (fix_to ok hf _) (fun w3 hw a hA => ?_)
  replace HB := HB.trans (hw.mono HB.size)
  replace HH := HH.below hw
  replace TT := TT.below hw
  clear hw
  refine W_cpH hA rfl rfl rfl rfl rfl HH (fun w4 hT HN => ?_)
  replace HB := HB.trans (hT.bel _ gHH)
  replace TT := hT.ts TT (by omega)
  replace HH := HN
  clear hT HN
  refine W_nil ?_
  refine then_nrm ?_
  show Code.wp Try.prog _ _ _ _
  refine wp_seq ?_
  refine wp_region_list ?_
  refine W_val hA rfl 11 rfl (by decide) _ _ (R_row hA rfl rfl HH Try.underlying25 (size_hart.trans (by rw [varr_size]))) (fun a hA => ?_)
  refine W_val hA rfl 12 rfl (by decide) _ _ (R_fa hA rfl rfl (fun w => fa_ts _ 1 (by decide) w) _) (fun a hA => ?_)
  refine W_val hA rfl 13 rfl (by decide) _ _ (R_ld (v := .int .u64 (s.c)) hA rfl rfl ag_u64 (TsB.cell TT 1 _ rfl)) (fun a hA => ?_)
  refine W_callA hA (by decide) (fun _ _ => by kernel_rfl) (args2 hA rfl rfl) (to_to (k := 1) okf sk.c z _) (fun w5 hw a hA => ?_)
  replace HB := HB.trans (hw.mono HB.size)
  replace HH := HH.below hw
  replace TT := TT.below hw
  clear hw
  refine W_val hA rfl 5 rfl (by decide) _ _ (R_asg hA rfl rfl _) (fun a hA => ?_)
  refine W_nil ?_
  refine then_nrm ?_
  show Code.wp Try.prog _ _ _ _
  refine wp_seq ?_
  refine wp_seq ?_
  refine wp_region_list ?_
  refine W_val hA rfl 15 rfl (by decide) _ _ (R_fa hA rfl rfl (fun w => fa_hart _ 2 33 (by decide) rfl w) _) (fun a hA => ?_)
  refine W_val hA rfl 16 rfl (by decide) _ _ (R_ld (v := .int .u8 (f.n 33)) hA rfl rfl ag_u8 HH.p) (fun a hA => ?_)
  refine W_val hA rfl 17 rfl (by decide) _ _ (R_eqlBN hA rfl rfl rfl false (by simpa using h33) _) (fun a hA => ?_)
  refine W_val hA rfl 18 rfl (by decide) _ _ (R_mov hA rfl rfl _) (fun a hA => ?_)
  refine W_gskip hA rfl rfl rfl 19 rfl (by decide) (fun a hA => ?_)
  refine W_gskip hA rfl rfl rfl 20 rfl (by decide) (fun a hA => ?_)
  refine W_val hA rfl 21 rfl (by decide) _ _ (R_pick hA rfl rfl rfl _) (fun a hA => ?_)
  refine W_val hA rfl 22 rfl (by decide) _ _ (R_mov hA rfl rfl _) (fun a hA => ?_)
  refine W_gval hA rfl rfl rfl 23 rfl (by decide) _ _ (R_fa hA rfl rfl (fun w => fa_hart _ 3 34 (by decide) rfl w) _) (fun a hA => ?_)
  refine W_gval hA rfl rfl rfl 24 rfl (by decide) _ _ (R_ld (v := .bool (f.v)) hA rfl rfl ag_bool HH.v) (fun a hA => ?_)
  refine W_gval hA rfl rfl rfl 25 rfl (by decide) _ _ (R_not hA rfl rfl _) (fun a hA => ?_)
  refine W_gval hA rfl rfl rfl 26 rfl (by decide) _ _ (R_mov hA rfl rfl _) (fun a hA => ?_)
  refine W_split hA 26 rfl (fun c1 hA => ?_) (fun c1 hA => ?_)
  · skip
    refine W_gval hA rfl rfl rfl 27 rfl (by decide) _ _ (R_mov hA rfl rfl _) (fun a hA => ?_)
    refine W_gval hA rfl rfl rfl 28 rfl (by decide) _ _ (R_eqlIT hA rfl rfl rfl false (by decide) _) (fun a hA => ?_)
    refine W_gval hA rfl rfl rfl 29 rfl (by decide) _ _ (R_pick hA rfl rfl rfl _) (fun a hA => ?_)
    refine W_val hA rfl 30 rfl (by decide) _ _ (R_pick hA rfl rfl rfl _) (fun a hA => ?_)
    refine W_nil ?_
    refine then_nrm ?_
    show Code.wp Try.prog _ _ _ _
    refine wp_cond_false (hA.ev (x := .tmp 30) rfl) ?_
    refine wp_skip ?_
    refine then_nrm ?_
    show Code.wp Try.prog _ _ _ _
    refine wp_seq ?_
    refine wp_region_list ?_
    refine W_val hA rfl 31 rfl (by decide) _ _ (R_row hA rfl rfl HH Try.underlying25 (size_hart.trans (by rw [varr_size]))) (fun a hA => ?_)
    refine W_val hA rfl 32 rfl (by decide) _ _ (R_row hA rfl rfl TT Try.underlying27 (size_ts _)) (fun a hA => ?_)
    refine W_callA hA (by decide) (fun _ _ => by kernel_rfl) (args2 hA rfl rfl) (enter_to okf sk hk _) (fun w6 hw a hA => ?_)
    replace HB := HB.trans (hw.mono HB.size)
    replace HH := HH.below hw
    replace TT := TT.below hw
    clear hw
    refine W_allocH hA rfl 6 rfl (by decide) rfl (fun w7 bA6 a hA hb A6 gA6 => ?_)
    have nHHA6 : bHH < bA6 := by have := HH.lt; omega
    have nTTA6 : bTT < bA6 := by have := TT.lt; omega
    replace gA6 := Nat.le_trans HB.size gA6
    replace HB := HB.trans (hb.mono HB.size)
    replace HH := HH.below hb
    replace TT := TT.below hb
    clear hb
    refine W_cpH hA rfl rfl rfl rfl rfl A6 (fun w8 hT HN => ?_)
    replace HB := HB.trans (hT.bel _ gA6)
    replace HH := hT.hart HH (by omega)
    replace TT := hT.ts TT (by omega)
    replace A6 := HN
    clear hT HN
    refine W_nil ?_
    refine then_nrm ?_
    show Code.wp Try.prog _ _ _ _
    refine wp_seq ?_
    refine wp_seq ?_
    refine wp_region_list ?_
    refine W_val hA rfl 34 rfl (by decide) _ _ (R_fa hA rfl rfl (fun w => fa_ts _ 0 (by decide) w) _) (fun a hA => ?_)
    refine W_val hA rfl 35 rfl (by decide) _ _ (R_ld (v := .bool true) hA rfl rfl ag_bool ((TsB.cell TT 0 (.bool s.is) rfl).trans (by rw [his]))) (fun a hA => ?_)
    refine W_val hA rfl 36 rfl (by decide) _ _ (R_not hA rfl rfl _) (fun a hA => ?_)
    refine W_nil ?_
    refine then_nrm ?_
    show Code.wp Try.prog _ _ _ _
    refine wp_cond_false (hA.ev (x := .tmp 36) rfl) ?_
    refine wp_skip ?_
    refine then_nrm ?_
    show Code.wp Try.prog _ _ _ _
    refine wp_seq ?_
    refine wp_region_list ?_
    refine W_val hA rfl 43 rfl (by decide) _ _ (R_row hA rfl rfl A6 Try.underlying25 (size_hart.trans (by rw [varr_size]))) (fun a hA => ?_)
    refine W_callA hA (by decide) (fun _ _ => by kernel_rfl) (args1 hA rfl) (mret_any k okk _) (fun w9 hw a hA => ?_)
    replace HB := HB.trans (hw.mono HB.size)
    replace HH := HH.below hw
    replace TT := TT.below hw
    replace A6 := A6.below hw
    clear hw
    refine W_allocH hA rfl 7 rfl (by decide) rfl (fun w10 bA7 a hA hb A7 gA7 => ?_)
    have nHHA7 : bHH < bA7 := by have := HH.lt; omega
    have nTTA7 : bTT < bA7 := by have := TT.lt; omega
    have nA6A7 : bA6 < bA7 := by have := A6.lt; omega
    replace gA7 := Nat.le_trans HB.size gA7
    replace HB := HB.trans (hb.mono HB.size)
    replace HH := HH.below hb
    replace TT := TT.below hb
    replace A6 := A6.below hb
    clear hb
    refine W_cpH hA rfl rfl rfl rfl rfl A7 (fun w11 hT HN => ?_)
    replace HB := HB.trans (hT.bel _ gA7)
    replace HH := hT.hart HH (by omega)
    replace TT := hT.ts TT (by omega)
    replace A6 := hT.hart A6 (by omega)
    replace A7 := HN
    clear hT HN
    refine W_nil ?_
    refine then_nrm ?_
    show Code.wp Try.prog _ _ _ _
    refine wp_seq ?_
    refine wp_region_list ?_
    refine W_val hA rfl 45 rfl (by decide) _ _ (R_row hA rfl rfl A6 Try.underlying25 (size_hart.trans (by rw [varr_size]))) (fun a hA => ?_)
    refine W_callA hA (by decide) (fun _ _ => by kernel_rfl) (args1 hA rfl) (sret_any k okk _) (fun w12 hw a hA => ?_)
    replace HB := HB.trans (hw.mono HB.size)
    replace HH := HH.below hw
    replace TT := TT.below hw
    replace A6 := A6.below hw
    replace A7 := A7.below hw
    clear hw
    refine W_allocH hA rfl 8 rfl (by decide) rfl (fun w13 bA8 a hA hb A8 gA8 => ?_)
    have nHHA8 : bHH < bA8 := by have := HH.lt; omega
    have nTTA8 : bTT < bA8 := by have := TT.lt; omega
    have nA6A8 : bA6 < bA8 := by have := A6.lt; omega
    have nA7A8 : bA7 < bA8 := by have := A7.lt; omega
    replace gA8 := Nat.le_trans HB.size gA8
    replace HB := HB.trans (hb.mono HB.size)
    replace HH := HH.below hb
    replace TT := TT.below hb
    replace A6 := A6.below hb
    replace A7 := A7.below hb
    clear hb
    refine W_cpH hA rfl rfl rfl rfl rfl A8 (fun w14 hT HN => ?_)
    replace HB := HB.trans (hT.bel _ gA8)
    replace HH := hT.hart HH (by omega)
    replace TT := hT.ts TT (by omega)
    replace A6 := hT.hart A6 (by omega)
    replace A7 := hT.hart A7 (by omega)
    replace A8 := HN
    clear hT HN
    refine W_nil ?_
    refine then_nrm ?_
    show Code.wp Try.prog _ _ _ _
    refine wp_seq ?_
    refine wp_region_list ?_
    refine W_val hA rfl 47 rfl (by decide) _ _ (R_row hA rfl rfl A6 Try.underlying25 (size_hart.trans (by rw [varr_size]))) (fun a hA => ?_)
    refine W_callA hA (by decide) (fun _ _ => by kernel_rfl) (args1 hA rfl) (legal_yes okk lgk _) (fun w15 hw a hA => ?_)
    replace HB := HB.trans (hw.mono HB.size)
    replace HH := HH.below hw
    replace TT := TT.below hw
    replace A6 := A6.below hw
    replace A7 := A7.below hw
    replace A8 := A8.below hw
    clear hw
    refine W_val hA rfl 49 rfl (by decide) _ _ (R_mov hA rfl rfl _) (fun a hA => ?_)
    refine W_gval hA rfl rfl rfl 50 rfl (by decide) _ _ (R_row hA rfl rfl A7 Try.underlying25 (size_hart.trans (by rw [varr_size]))) (fun a hA => ?_)
    refine W_gcallB hA rfl rfl (by decide) (fun _ _ => by kernel_rfl) (args1 hA rfl) (legal_yes (ok_mret okk) (legal_mret okk lgk) _) (fun w16 hw a hA => ?_)
    replace HB := HB.trans (hw.mono HB.size)
    replace HH := HH.below hw
    replace TT := TT.below hw
    replace A6 := A6.below hw
    replace A7 := A7.below hw
    replace A8 := A8.below hw
    clear hw
    refine W_val hA rfl 52 rfl (by decide) _ _ (R_pick hA rfl rfl rfl _) (fun a hA => ?_)
    refine W_val hA rfl 53 rfl (by decide) _ _ (R_mov hA rfl rfl _) (fun a hA => ?_)
    refine W_gval hA rfl rfl rfl 54 rfl (by decide) _ _ (R_row hA rfl rfl A8 Try.underlying25 (size_hart.trans (by rw [varr_size]))) (fun a hA => ?_)
    refine W_gcallB hA rfl rfl (by decide) (fun _ _ => by kernel_rfl) (args1 hA rfl) (legal_yes (ok_sret okk) (legal_sret okk lgk) _) (fun w17 hw a hA => ?_)
    replace HB := HB.trans (hw.mono HB.size)
    replace HH := HH.below hw
    replace TT := TT.below hw
    replace A6 := A6.below hw
    replace A7 := A7.below hw
    replace A8 := A8.below hw
    clear hw
    refine W_val hA rfl 56 rfl (by decide) _ _ (R_pick hA rfl rfl rfl _) (fun a hA => ?_)
    refine W_val hA rfl 57 rfl (by decide) _ _ (R_mov hA rfl rfl _) (fun a hA => ?_)
    refine W_gcallB hA rfl rfl (by decide) (fun _ _ => by kernel_rfl) (args0 ) (wakes_any _) (fun w18 hw a hA => ?_)
    replace HB := HB.trans (hw.mono HB.size)
    replace HH := HH.below hw
    replace TT := TT.below hw
    replace A6 := A6.below hw
    replace A7 := A7.below hw
    replace A8 := A8.below hw
    clear hw
    refine W_val hA rfl 59 rfl (by decide) _ _ (R_pick hA rfl rfl rfl _) (fun a hA => ?_)
    refine W_val hA rfl 4 rfl (by decide) _ _ (R_asg hA rfl rfl _) (fun a hA => ?_)
    refine W_nil ?_
    refine then_nrm ?_
    show Code.wp Try.prog _ _ _ _
    refine wp_ret ?_
    exact ret_tmp (j := 4) (by kernel_rfl) hA (by decide) rfl ⟨rfl, HB⟩
  refine W_gskip hA rfl rfl rfl 27 rfl (by decide) (fun a hA => ?_)
  refine W_gskip hA rfl rfl rfl 28 rfl (by decide) (fun a hA => ?_)
  refine W_gval hA rfl rfl rfl 29 rfl (by decide) _ _ (R_pick hA rfl rfl rfl _) (fun a hA => ?_)
  refine W_val hA rfl 30 rfl (by decide) _ _ (R_pick hA rfl rfl rfl _) (fun a hA => ?_)
  refine W_nil ?_
  refine then_nrm ?_
  show Code.wp Try.prog _ _ _ _
  refine wp_cond_false (hA.ev (x := .tmp 30) rfl) ?_
  refine wp_skip ?_
  refine then_nrm ?_
  show Code.wp Try.prog _ _ _ _
  refine wp_seq ?_
  refine wp_region_list ?_
  refine W_val hA rfl 31 rfl (by decide) _ _ (R_row hA rfl rfl HH Try.underlying25 (size_hart.trans (by rw [varr_size]))) (fun a hA => ?_)
  refine W_val hA rfl 32 rfl (by decide) _ _ (R_row hA rfl rfl TT Try.underlying27 (size_ts _)) (fun a hA => ?_)
  refine W_callA hA (by decide) (fun _ _ => by kernel_rfl) (args2 hA rfl rfl) (enter_to okf sk hk _) (fun w19 hw a hA => ?_)
  replace HB := HB.trans (hw.mono HB.size)
  replace HH := HH.below hw
  replace TT := TT.below hw
  clear hw
  refine W_allocH hA rfl 6 rfl (by decide) rfl (fun w20 bA6 a hA hb A6 gA6 => ?_)
  have nHHA6 : bHH < bA6 := by have := HH.lt; omega
  have nTTA6 : bTT < bA6 := by have := TT.lt; omega
  replace gA6 := Nat.le_trans HB.size gA6
  replace HB := HB.trans (hb.mono HB.size)
  replace HH := HH.below hb
  replace TT := TT.below hb
  clear hb
  refine W_cpH hA rfl rfl rfl rfl rfl A6 (fun w21 hT HN => ?_)
  replace HB := HB.trans (hT.bel _ gA6)
  replace HH := hT.hart HH (by omega)
  replace TT := hT.ts TT (by omega)
  replace A6 := HN
  clear hT HN
  refine W_nil ?_
  refine then_nrm ?_
  show Code.wp Try.prog _ _ _ _
  refine wp_seq ?_
  refine wp_seq ?_
  refine wp_region_list ?_
  refine W_val hA rfl 34 rfl (by decide) _ _ (R_fa hA rfl rfl (fun w => fa_ts _ 0 (by decide) w) _) (fun a hA => ?_)
  refine W_val hA rfl 35 rfl (by decide) _ _ (R_ld (v := .bool true) hA rfl rfl ag_bool ((TsB.cell TT 0 (.bool s.is) rfl).trans (by rw [his]))) (fun a hA => ?_)
  refine W_val hA rfl 36 rfl (by decide) _ _ (R_not hA rfl rfl _) (fun a hA => ?_)
  refine W_nil ?_
  refine then_nrm ?_
  show Code.wp Try.prog _ _ _ _
  refine wp_cond_false (hA.ev (x := .tmp 36) rfl) ?_
  refine wp_skip ?_
  refine then_nrm ?_
  show Code.wp Try.prog _ _ _ _
  refine wp_seq ?_
  refine wp_region_list ?_
  refine W_val hA rfl 43 rfl (by decide) _ _ (R_row hA rfl rfl A6 Try.underlying25 (size_hart.trans (by rw [varr_size]))) (fun a hA => ?_)
  refine W_callA hA (by decide) (fun _ _ => by kernel_rfl) (args1 hA rfl) (mret_any k okk _) (fun w22 hw a hA => ?_)
  replace HB := HB.trans (hw.mono HB.size)
  replace HH := HH.below hw
  replace TT := TT.below hw
  replace A6 := A6.below hw
  clear hw
  refine W_allocH hA rfl 7 rfl (by decide) rfl (fun w23 bA7 a hA hb A7 gA7 => ?_)
  have nHHA7 : bHH < bA7 := by have := HH.lt; omega
  have nTTA7 : bTT < bA7 := by have := TT.lt; omega
  have nA6A7 : bA6 < bA7 := by have := A6.lt; omega
  replace gA7 := Nat.le_trans HB.size gA7
  replace HB := HB.trans (hb.mono HB.size)
  replace HH := HH.below hb
  replace TT := TT.below hb
  replace A6 := A6.below hb
  clear hb
  refine W_cpH hA rfl rfl rfl rfl rfl A7 (fun w24 hT HN => ?_)
  replace HB := HB.trans (hT.bel _ gA7)
  replace HH := hT.hart HH (by omega)
  replace TT := hT.ts TT (by omega)
  replace A6 := hT.hart A6 (by omega)
  replace A7 := HN
  clear hT HN
  refine W_nil ?_
  refine then_nrm ?_
  show Code.wp Try.prog _ _ _ _
  refine wp_seq ?_
  refine wp_region_list ?_
  refine W_val hA rfl 45 rfl (by decide) _ _ (R_row hA rfl rfl A6 Try.underlying25 (size_hart.trans (by rw [varr_size]))) (fun a hA => ?_)
  refine W_callA hA (by decide) (fun _ _ => by kernel_rfl) (args1 hA rfl) (sret_any k okk _) (fun w25 hw a hA => ?_)
  replace HB := HB.trans (hw.mono HB.size)
  replace HH := HH.below hw
  replace TT := TT.below hw
  replace A6 := A6.below hw
  replace A7 := A7.below hw
  clear hw
  refine W_allocH hA rfl 8 rfl (by decide) rfl (fun w26 bA8 a hA hb A8 gA8 => ?_)
  have nHHA8 : bHH < bA8 := by have := HH.lt; omega
  have nTTA8 : bTT < bA8 := by have := TT.lt; omega
  have nA6A8 : bA6 < bA8 := by have := A6.lt; omega
  have nA7A8 : bA7 < bA8 := by have := A7.lt; omega
  replace gA8 := Nat.le_trans HB.size gA8
  replace HB := HB.trans (hb.mono HB.size)
  replace HH := HH.below hb
  replace TT := TT.below hb
  replace A6 := A6.below hb
  replace A7 := A7.below hb
  clear hb
  refine W_cpH hA rfl rfl rfl rfl rfl A8 (fun w27 hT HN => ?_)
  replace HB := HB.trans (hT.bel _ gA8)
  replace HH := hT.hart HH (by omega)
  replace TT := hT.ts TT (by omega)
  replace A6 := hT.hart A6 (by omega)
  replace A7 := hT.hart A7 (by omega)
  replace A8 := HN
  clear hT HN
  refine W_nil ?_
  refine then_nrm ?_
  show Code.wp Try.prog _ _ _ _
  refine wp_seq ?_
  refine wp_region_list ?_
  refine W_val hA rfl 47 rfl (by decide) _ _ (R_row hA rfl rfl A6 Try.underlying25 (size_hart.trans (by rw [varr_size]))) (fun a hA => ?_)
  refine W_callA hA (by decide) (fun _ _ => by kernel_rfl) (args1 hA rfl) (legal_yes okk lgk _) (fun w28 hw a hA => ?_)
  replace HB := HB.trans (hw.mono HB.size)
  replace HH := HH.below hw
  replace TT := TT.below hw
  replace A6 := A6.below hw
  replace A7 := A7.below hw
  replace A8 := A8.below hw
  clear hw
  refine W_val hA rfl 49 rfl (by decide) _ _ (R_mov hA rfl rfl _) (fun a hA => ?_)
  refine W_gval hA rfl rfl rfl 50 rfl (by decide) _ _ (R_row hA rfl rfl A7 Try.underlying25 (size_hart.trans (by rw [varr_size]))) (fun a hA => ?_)
  refine W_gcallB hA rfl rfl (by decide) (fun _ _ => by kernel_rfl) (args1 hA rfl) (legal_yes (ok_mret okk) (legal_mret okk lgk) _) (fun w29 hw a hA => ?_)
  replace HB := HB.trans (hw.mono HB.size)
  replace HH := HH.below hw
  replace TT := TT.below hw
  replace A6 := A6.below hw
  replace A7 := A7.below hw
  replace A8 := A8.below hw
  clear hw
  refine W_val hA rfl 52 rfl (by decide) _ _ (R_pick hA rfl rfl rfl _) (fun a hA => ?_)
  refine W_val hA rfl 53 rfl (by decide) _ _ (R_mov hA rfl rfl _) (fun a hA => ?_)
  refine W_gval hA rfl rfl rfl 54 rfl (by decide) _ _ (R_row hA rfl rfl A8 Try.underlying25 (size_hart.trans (by rw [varr_size]))) (fun a hA => ?_)
  refine W_gcallB hA rfl rfl (by decide) (fun _ _ => by kernel_rfl) (args1 hA rfl) (legal_yes (ok_sret okk) (legal_sret okk lgk) _) (fun w30 hw a hA => ?_)
  replace HB := HB.trans (hw.mono HB.size)
  replace HH := HH.below hw
  replace TT := TT.below hw
  replace A6 := A6.below hw
  replace A7 := A7.below hw
  replace A8 := A8.below hw
  clear hw
  refine W_val hA rfl 56 rfl (by decide) _ _ (R_pick hA rfl rfl rfl _) (fun a hA => ?_)
  refine W_val hA rfl 57 rfl (by decide) _ _ (R_mov hA rfl rfl _) (fun a hA => ?_)
  refine W_gcallB hA rfl rfl (by decide) (fun _ _ => by kernel_rfl) (args0 ) (wakes_any _) (fun w31 hw a hA => ?_)
  replace HB := HB.trans (hw.mono HB.size)
  replace HH := HH.below hw
  replace TT := TT.below hw
  replace A6 := A6.below hw
  replace A7 := A7.below hw
  replace A8 := A8.below hw
  clear hw
  refine W_val hA rfl 59 rfl (by decide) _ _ (R_pick hA rfl rfl rfl _) (fun a hA => ?_)
  refine W_val hA rfl 4 rfl (by decide) _ _ (R_asg hA rfl rfl _) (fun a hA => ?_)
  refine W_nil ?_
  refine then_nrm ?_
  show Code.wp Try.prog _ _ _ _
  refine wp_ret ?_
  exact ret_tmp (j := 4) (by kernel_rfl) hA (by decide) rfl ⟨rfl, HB⟩
set_option maxHeartbeats 8000000 in
theorem trapUp_2y (t : HS) (s : TS) (f k : HS) (w : World) (ok : HOk t) (sk : TOk s) (hf : fixZ t = f) (okf : HOk f) (okk : HOk k) (lgk : Lgl k) (his : s.is = true) (hk : enterZ f s = k) (z : toZ f s.c = 2) (h33 : ¬ f.n 33 = 3) (hv : f.v = true) : Calls Try.prog 6 #[hartV t, tsV s] w fun e w' => e = .returned (.bool true) ∧ Below w.heap.size w w' := by
  have HB := Below.refl w.heap.size w
  go_enter Try.func6, Try.ntmps6
  refine begin_fr [(1, tsV s), (0, hartV t)] 60 ?_ (fun a hA => ?_)
  · exact FrA.add (FrA.add (FrA.nil (by rfl) (by rfl)) 0 _ (by rfl)) 1 _ (by rfl)
  refine wp_seq ?_
  refine wp_region_list ?_
  refine W_boxH hA rfl 2 rfl (by decide) rfl rfl (fun w1 bHH a hA hb HH gHH => ?_)
  replace gHH := Nat.le_trans HB.size gHH
  replace HB := HB.trans (hb.mono HB.size)
  clear hb
  refine W_boxT hA rfl 3 rfl (by decide) rfl rfl (fun w2 bTT a hA hb TT gTT => ?_)
  have nHHTT : bHH < bTT := by have := HH.lt; omega
  replace gTT := Nat.le_trans HB.size gTT
  replace HB := HB.trans (hb.mono HB.size)
  replace HH := HH.below hb
  clear hb
  refine W_val hA rfl 4 rfl (by decide) _ _ (R_asg hA rfl rfl _) (fun a hA => ?_)
  refine W_nil ?_
  refine then_nrm ?_
  show Code.wp Try.prog _ _ _ _
  refine wp_seq ?_
  refine wp_region_list ?_
  refine W_val hA rfl 9 rfl (by decide) _ _ (R_row hA rfl rfl HH Try.underlying25 (size_hart.trans (by rw [varr_size]))) (fun a hA => ?_)
  refine W_callA hA (by decide) (fun _ _ => by kernel_rfl) (args1 hA rfl) (fix_to ok hf _) (fun w3 hw a hA => ?_)
  replace HB := HB.trans (hw.mono HB.size)
  replace HH := HH.below hw
  replace TT := TT.below hw
  clear hw
  refine W_cpH hA rfl rfl rfl rfl rfl HH (fun w4 hT HN => ?_)
  replace HB := HB.trans (hT.bel _ gHH)
  replace TT := hT.ts TT (by omega)
  replace HH := HN
  clear hT HN
  refine W_nil ?_
  refine then_nrm ?_
  show Code.wp Try.prog _ _ _ _
  refine wp_seq ?_
  refine wp_region_list ?_
  refine W_val hA rfl 11 rfl (by decide) _ _ (R_row hA rfl rfl HH Try.underlying25 (size_hart.trans (by rw [varr_size]))) (fun a hA => ?_)
  refine W_val hA rfl 12 rfl (by decide) _ _ (R_fa hA rfl rfl (fun w => fa_ts _ 1 (by decide) w) _) (fun a hA => ?_)
  refine W_val hA rfl 13 rfl (by decide) _ _ (R_ld (v := .int .u64 (s.c)) hA rfl rfl ag_u64 (TsB.cell TT 1 _ rfl)) (fun a hA => ?_)
  refine W_callA hA (by decide) (fun _ _ => by kernel_rfl) (args2 hA rfl rfl) (to_to (k := 2) okf sk.c z _) (fun w5 hw a hA => ?_)
  replace HB := HB.trans (hw.mono HB.size)
  replace HH := HH.below hw
  replace TT := TT.below hw
  clear hw
  refine W_val hA rfl 5 rfl (by decide) _ _ (R_asg hA rfl rfl _) (fun a hA => ?_)
  refine W_nil ?_
  refine then_nrm ?_
  show Code.wp Try.prog _ _ _ _
  refine wp_seq ?_
  refine wp_seq ?_
  refine wp_region_list ?_
  refine W_val hA rfl 15 rfl (by decide) _ _ (R_fa hA rfl rfl (fun w => fa_hart _ 2 33 (by decide) rfl w) _) (fun a hA => ?_)
  refine W_val hA rfl 16 rfl (by decide) _ _ (R_ld (v := .int .u8 (f.n 33)) hA rfl rfl ag_u8 HH.p) (fun a hA => ?_)
  refine W_val hA rfl 17 rfl (by decide) _ _ (R_eqlBN hA rfl rfl rfl false (by simpa using h33) _) (fun a hA => ?_)
  refine W_val hA rfl 18 rfl (by decide) _ _ (R_mov hA rfl rfl _) (fun a hA => ?_)
  refine W_gskip hA rfl rfl rfl 19 rfl (by decide) (fun a hA => ?_)
  refine W_gskip hA rfl rfl rfl 20 rfl (by decide) (fun a hA => ?_)
  refine W_val hA rfl 21 rfl (by decide) _ _ (R_pick hA rfl rfl rfl _) (fun a hA => ?_)
  refine W_val hA rfl 22 rfl (by decide) _ _ (R_mov hA rfl rfl _) (fun a hA => ?_)
  refine W_gval hA rfl rfl rfl 23 rfl (by decide) _ _ (R_fa hA rfl rfl (fun w => fa_hart _ 3 34 (by decide) rfl w) _) (fun a hA => ?_)
  refine W_gval hA rfl rfl rfl 24 rfl (by decide) _ _ (R_ld (v := .bool true) hA rfl rfl ag_bool (HH.v.trans (by rw [hv]))) (fun a hA => ?_)
  refine W_gval hA rfl rfl rfl 25 rfl (by decide) _ _ (R_not hA rfl rfl _) (fun a hA => ?_)
  refine W_gval hA rfl rfl rfl 26 rfl (by decide) _ _ (R_mov hA rfl rfl _) (fun a hA => ?_)
  refine W_gskip hA rfl rfl rfl 27 rfl (by decide) (fun a hA => ?_)
  refine W_gskip hA rfl rfl rfl 28 rfl (by decide) (fun a hA => ?_)
  refine W_gval hA rfl rfl rfl 29 rfl (by decide) _ _ (R_pick hA rfl rfl rfl _) (fun a hA => ?_)
  refine W_val hA rfl 30 rfl (by decide) _ _ (R_pick hA rfl rfl rfl _) (fun a hA => ?_)
  refine W_nil ?_
  refine then_nrm ?_
  show Code.wp Try.prog _ _ _ _
  refine wp_cond_false (hA.ev (x := .tmp 30) rfl) ?_
  refine wp_skip ?_
  refine then_nrm ?_
  show Code.wp Try.prog _ _ _ _
  refine wp_seq ?_
  refine wp_region_list ?_
  refine W_val hA rfl 31 rfl (by decide) _ _ (R_row hA rfl rfl HH Try.underlying25 (size_hart.trans (by rw [varr_size]))) (fun a hA => ?_)
  refine W_val hA rfl 32 rfl (by decide) _ _ (R_row hA rfl rfl TT Try.underlying27 (size_ts _)) (fun a hA => ?_)
  refine W_callA hA (by decide) (fun _ _ => by kernel_rfl) (args2 hA rfl rfl) (enter_to okf sk hk _) (fun w6 hw a hA => ?_)
  replace HB := HB.trans (hw.mono HB.size)
  replace HH := HH.below hw
  replace TT := TT.below hw
  clear hw
  refine W_allocH hA rfl 6 rfl (by decide) rfl (fun w7 bA6 a hA hb A6 gA6 => ?_)
  have nHHA6 : bHH < bA6 := by have := HH.lt; omega
  have nTTA6 : bTT < bA6 := by have := TT.lt; omega
  replace gA6 := Nat.le_trans HB.size gA6
  replace HB := HB.trans (hb.mono HB.size)
  replace HH := HH.below hb
  replace TT := TT.below hb
  clear hb
  refine W_cpH hA rfl rfl rfl rfl rfl A6 (fun w8 hT HN => ?_)
  replace HB := HB.trans (hT.bel _ gA6)
  replace HH := hT.hart HH (by omega)
  replace TT := hT.ts TT (by omega)
  replace A6 := HN
  clear hT HN
  refine W_nil ?_
  refine then_nrm ?_
  show Code.wp Try.prog _ _ _ _
  refine wp_seq ?_
  refine wp_seq ?_
  refine wp_region_list ?_
  refine W_val hA rfl 34 rfl (by decide) _ _ (R_fa hA rfl rfl (fun w => fa_ts _ 0 (by decide) w) _) (fun a hA => ?_)
  refine W_val hA rfl 35 rfl (by decide) _ _ (R_ld (v := .bool true) hA rfl rfl ag_bool ((TsB.cell TT 0 (.bool s.is) rfl).trans (by rw [his]))) (fun a hA => ?_)
  refine W_val hA rfl 36 rfl (by decide) _ _ (R_not hA rfl rfl _) (fun a hA => ?_)
  refine W_nil ?_
  refine then_nrm ?_
  show Code.wp Try.prog _ _ _ _
  refine wp_cond_false (hA.ev (x := .tmp 36) rfl) ?_
  refine wp_skip ?_
  refine then_nrm ?_
  show Code.wp Try.prog _ _ _ _
  refine wp_seq ?_
  refine wp_region_list ?_
  refine W_val hA rfl 43 rfl (by decide) _ _ (R_row hA rfl rfl A6 Try.underlying25 (size_hart.trans (by rw [varr_size]))) (fun a hA => ?_)
  refine W_callA hA (by decide) (fun _ _ => by kernel_rfl) (args1 hA rfl) (mret_any k okk _) (fun w9 hw a hA => ?_)
  replace HB := HB.trans (hw.mono HB.size)
  replace HH := HH.below hw
  replace TT := TT.below hw
  replace A6 := A6.below hw
  clear hw
  refine W_allocH hA rfl 7 rfl (by decide) rfl (fun w10 bA7 a hA hb A7 gA7 => ?_)
  have nHHA7 : bHH < bA7 := by have := HH.lt; omega
  have nTTA7 : bTT < bA7 := by have := TT.lt; omega
  have nA6A7 : bA6 < bA7 := by have := A6.lt; omega
  replace gA7 := Nat.le_trans HB.size gA7
  replace HB := HB.trans (hb.mono HB.size)
  replace HH := HH.below hb
  replace TT := TT.below hb
  replace A6 := A6.below hb
  clear hb
  refine W_cpH hA rfl rfl rfl rfl rfl A7 (fun w11 hT HN => ?_)
  replace HB := HB.trans (hT.bel _ gA7)
  replace HH := hT.hart HH (by omega)
  replace TT := hT.ts TT (by omega)
  replace A6 := hT.hart A6 (by omega)
  replace A7 := HN
  clear hT HN
  refine W_nil ?_
  refine then_nrm ?_
  show Code.wp Try.prog _ _ _ _
  refine wp_seq ?_
  refine wp_region_list ?_
  refine W_val hA rfl 45 rfl (by decide) _ _ (R_row hA rfl rfl A6 Try.underlying25 (size_hart.trans (by rw [varr_size]))) (fun a hA => ?_)
  refine W_callA hA (by decide) (fun _ _ => by kernel_rfl) (args1 hA rfl) (sret_any k okk _) (fun w12 hw a hA => ?_)
  replace HB := HB.trans (hw.mono HB.size)
  replace HH := HH.below hw
  replace TT := TT.below hw
  replace A6 := A6.below hw
  replace A7 := A7.below hw
  clear hw
  refine W_allocH hA rfl 8 rfl (by decide) rfl (fun w13 bA8 a hA hb A8 gA8 => ?_)
  have nHHA8 : bHH < bA8 := by have := HH.lt; omega
  have nTTA8 : bTT < bA8 := by have := TT.lt; omega
  have nA6A8 : bA6 < bA8 := by have := A6.lt; omega
  have nA7A8 : bA7 < bA8 := by have := A7.lt; omega
  replace gA8 := Nat.le_trans HB.size gA8
  replace HB := HB.trans (hb.mono HB.size)
  replace HH := HH.below hb
  replace TT := TT.below hb
  replace A6 := A6.below hb
  replace A7 := A7.below hb
  clear hb
  refine W_cpH hA rfl rfl rfl rfl rfl A8 (fun w14 hT HN => ?_)
  replace HB := HB.trans (hT.bel _ gA8)
  replace HH := hT.hart HH (by omega)
  replace TT := hT.ts TT (by omega)
  replace A6 := hT.hart A6 (by omega)
  replace A7 := hT.hart A7 (by omega)
  replace A8 := HN
  clear hT HN
  refine W_nil ?_
  refine then_nrm ?_
  show Code.wp Try.prog _ _ _ _
  refine wp_seq ?_
  refine wp_region_list ?_
  refine W_val hA rfl 47 rfl (by decide) _ _ (R_row hA rfl rfl A6 Try.underlying25 (size_hart.trans (by rw [varr_size]))) (fun a hA => ?_)
  refine W_callA hA (by decide) (fun _ _ => by kernel_rfl) (args1 hA rfl) (legal_yes okk lgk _) (fun w15 hw a hA => ?_)
  replace HB := HB.trans (hw.mono HB.size)
  replace HH := HH.below hw
  replace TT := TT.below hw
  replace A6 := A6.below hw
  replace A7 := A7.below hw
  replace A8 := A8.below hw
  clear hw
  refine W_val hA rfl 49 rfl (by decide) _ _ (R_mov hA rfl rfl _) (fun a hA => ?_)
  refine W_gval hA rfl rfl rfl 50 rfl (by decide) _ _ (R_row hA rfl rfl A7 Try.underlying25 (size_hart.trans (by rw [varr_size]))) (fun a hA => ?_)
  refine W_gcallB hA rfl rfl (by decide) (fun _ _ => by kernel_rfl) (args1 hA rfl) (legal_yes (ok_mret okk) (legal_mret okk lgk) _) (fun w16 hw a hA => ?_)
  replace HB := HB.trans (hw.mono HB.size)
  replace HH := HH.below hw
  replace TT := TT.below hw
  replace A6 := A6.below hw
  replace A7 := A7.below hw
  replace A8 := A8.below hw
  clear hw
  refine W_val hA rfl 52 rfl (by decide) _ _ (R_pick hA rfl rfl rfl _) (fun a hA => ?_)
  refine W_val hA rfl 53 rfl (by decide) _ _ (R_mov hA rfl rfl _) (fun a hA => ?_)
  refine W_gval hA rfl rfl rfl 54 rfl (by decide) _ _ (R_row hA rfl rfl A8 Try.underlying25 (size_hart.trans (by rw [varr_size]))) (fun a hA => ?_)
  refine W_gcallB hA rfl rfl (by decide) (fun _ _ => by kernel_rfl) (args1 hA rfl) (legal_yes (ok_sret okk) (legal_sret okk lgk) _) (fun w17 hw a hA => ?_)
  replace HB := HB.trans (hw.mono HB.size)
  replace HH := HH.below hw
  replace TT := TT.below hw
  replace A6 := A6.below hw
  replace A7 := A7.below hw
  replace A8 := A8.below hw
  clear hw
  refine W_val hA rfl 56 rfl (by decide) _ _ (R_pick hA rfl rfl rfl _) (fun a hA => ?_)
  refine W_val hA rfl 57 rfl (by decide) _ _ (R_mov hA rfl rfl _) (fun a hA => ?_)
  refine W_gcallB hA rfl rfl (by decide) (fun _ _ => by kernel_rfl) (args0 ) (wakes_any _) (fun w18 hw a hA => ?_)
  replace HB := HB.trans (hw.mono HB.size)
  replace HH := HH.below hw
  replace TT := TT.below hw
  replace A6 := A6.below hw
  replace A7 := A7.below hw
  replace A8 := A8.below hw
  clear hw
  refine W_val hA rfl 59 rfl (by decide) _ _ (R_pick hA rfl rfl rfl _) (fun a hA => ?_)
  refine W_val hA rfl 4 rfl (by decide) _ _ (R_asg hA rfl rfl _) (fun a hA => ?_)
  refine W_nil ?_
  refine then_nrm ?_
  show Code.wp Try.prog _ _ _ _
  refine wp_ret ?_
  exact ret_tmp (j := 4) (by kernel_rfl) hA (by decide) rfl ⟨rfl, HB⟩
theorem trapUp_walk (t : HS) (s : TS) (w : World) (ok : HOk t) (sk : TOk s) : Calls Try.prog 6 #[hartV t, tsV s] w fun e w' => e = .returned (.bool true) ∧ Below w.heap.size w w' := by
  have lg := lgl_fix ok
  have okf := ok_fix ok
  generalize hf : fixZ t = f at lg okf
  have hl := toZ_lt f s.c
  cases his : s.is
  · have hk : enterZ f s = f := by unfold enterZ; rw [his]; rfl
    rcases (show toZ f s.c = 0 ∨ toZ f s.c = 1 ∨ toZ f s.c = 2 by omega) with z | z | z
    · exact trapUp_0n t s f f w ok sk hf okf okf lg his hk z rfl
    · exact trapUp_1n t s f f w ok sk hf okf okf lg his hk z rfl (fun q => by have := toZ_machine (c := s.c) q; omega)
    · exact trapUp_2n t s f f w ok sk hf okf okf lg his hk z rfl (fun q => by have := toZ_machine (c := s.c) q; omega) (toZ_guest z)
  · rcases (show toZ f s.c = 0 ∨ toZ f s.c = 1 ∨ toZ f s.c = 2 by omega) with z | z | z
    · exact trapUp_0y t s f _ w ok sk hf okf (ok_enterM okf sk) (legal_enterM okf lg _ _ _ _ _) his (enterZ_m his z) z
    · exact trapUp_1y t s f _ w ok sk hf okf (ok_enterH okf sk) (legal_enterH okf lg _ _ _ _ _) his (enterZ_h his z) z (fun q => by have := toZ_machine (c := s.c) q; omega)
    · exact trapUp_2y t s f _ w ok sk hf okf (ok_enterG okf sk) (legal_enterG okf lg _ _) his (enterZ_g his z) z (fun q => by have := toZ_machine (c := s.c) q; omega) (toZ_guest z)
end Go.Proofs.Ytkfhpmleelmcfaa
