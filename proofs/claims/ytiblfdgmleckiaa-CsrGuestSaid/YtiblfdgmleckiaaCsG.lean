/- Layer 12: reading (written by gen_csg.py by walkf.py). -/
import Derived.Test.YtiblfdgmleckiaaCsE
import Derived.Test.YtiblfdgmleckiaaCsF
namespace Go.Proofs.Ytiblfdgmleckiaa
open Go.RowKit
set_option linter.unusedVariables false
set_option maxRecDepth 100000

set_option maxHeartbeats 8000000 in
theorem readView_any (t : HS) (ok : HOk t) (l : LS) (m : Int) (w : World) : Calls Try.prog 30 #[hartV t, linesV l, .int .i64 m] w fun e w' => e = .returned (.int .u64 (viewR t l m)) ∧ Below w.heap.size w w' := by
  have HB := Below.refl w.heap.size w
  go_enter Try.func30, Try.ntmps30
  refine begin_fr [(2, .int .i64 m), (1, linesV l), (0, hartV t)] 87 ?_ (fun a hA => ?_)
  · exact FrA.add (FrA.add (FrA.add (FrA.nil (by rfl) (by rfl)) 0 _ (by rfl)) 1 _ (by rfl)) 2 _ (by rfl)
  refine wp_seq ?_
  refine wp_region_list ?_
  refine W_boxH hA rfl 3 rfl (by decide) rfl rfl (fun w1 bHH a hA hb HH gHH => ?_)
  replace gHH := Nat.le_trans HB.size gHH
  replace HB := HB.trans (hb.mono HB.size)
  clear hb
  refine W_boxL hA rfl 4 rfl (by decide) rfl rfl (fun w2 bLL a hA hb LL gLL => ?_)
  have nHHLL : bHH < bLL := by have := HH.lt; omega
  replace HH := HH.below hb
  replace gLL := Nat.le_trans HB.size gLL
  replace HB := HB.trans (hb.mono HB.size)
  clear hb
  refine W_val hA rfl 6 rfl (by decide) _ _ (R_asg hA rfl rfl _) (fun a hA => ?_)
  refine W_nil ?_
  refine then_nrm ?_
  show Code.wp Try.prog _ _ _ _
  refine wp_seq ?_
  refine wp_seq ?_
  refine wp_region_list ?_
  refine W_val hA rfl 7 rfl (by decide) _ _ (R_mov hA rfl rfl _) (fun a hA => ?_)
  refine W_nil ?_
  refine then_nrm ?_
  show Code.wp Try.prog _ _ _ _
  refine wp_block ?_
  refine W_test hA rfl (by decide) (by decide) rfl rfl (fun c1 a hA => ?_) (fun c1 a hA => ?_)
  · skip
    refine wp_seq ?_
    refine wp_region_held_drew (S := fun wx => Below w2.heap.size w2 wx) (by kernel_rfl) ((Below.refl _ _).drew) (fun hS => ?_)
    refine takeF (i := 0) hA 10 rfl rfl (by decide) rfl (by kernel_rfl) (by kernel_rfl) (by kernel_rfl) (fun _ _ _ h => h) hS (fun wx hx => R_fa hA rfl rfl (fun w => fa_hart _ 7 38 (by decide) rfl w) _) (fun a hA => ?_)
    refine takeF (i := 1) hA 11 rfl rfl (by decide) rfl (by kernel_rfl) (by kernel_rfl) (by kernel_rfl) (fun _ _ _ h => h) hS (fun wx hx => R_ld hA rfl rfl ag_u64 ((HH.below hx).u 38 (by decide) (by decide))) (fun a hA => ?_)
    refine takeF (i := 2) hA 12 rfl rfl (by decide) rfl (by kernel_rfl) (by kernel_rfl) (by kernel_rfl) (fun _ _ _ h => h) hS (fun wx hx => R_mov hA rfl rfl _) (fun a hA => ?_)
    refine takeF (i := 5) hA 15 rfl rfl (by decide) rfl (by kernel_rfl) (by kernel_rfl) (by kernel_rfl) (fun _ _ _ h => h) hS (fun wx hx => R_mov hA rfl rfl _) (fun a hA => ?_)
    refine wpAnyH_ready (rs := [3]) (by kernel_rfl) (by simp) ?_
    refine ready_call (i := 3) hA (by decide) rfl (fun _ _ => by kernel_rfl) (args1 hA rfl) (mask_any _ _) (fun _ h => h ▸ hS) (fun w3 hw a hA => ?_) ?_
    · skip
      subst hw
      refine takeF (i := 4) hA 14 rfl rfl (by decide) rfl (by kernel_rfl) (by kernel_rfl) (by kernel_rfl) (fun _ _ _ h => h) hS (fun wx hx => R_and hA rfl rfl rfl _) (fun a hA => ?_)
      refine wpAnyH_ready (rs := [6]) (by kernel_rfl) (by simp) ?_
      refine ready_call (i := 6) hA (by decide) rfl (fun _ _ => by kernel_rfl) (args1 hA rfl) (set_any _ _) (fun _ h => h ▸ hS) (fun w4 hw a hA => ?_) ?_
      · skip
        subst hw
        refine takeF (i := 7) hA 17 rfl rfl (by decide) rfl (by kernel_rfl) (by kernel_rfl) (by kernel_rfl) (fun _ _ _ h => h) hS (fun wx hx => R_or hA rfl rfl rfl _) (fun a hA => ?_)
        refine takeF (i := 8) hA 6 rfl rfl (by decide) rfl (by kernel_rfl) (by kernel_rfl) (by kernel_rfl) (fun _ _ _ h => h) hS (fun wx hx => R_asg hA rfl rfl _) (fun a hA => ?_)
        refine wpAnyH_done (by kernel_rfl) ?_ _
        replace HH := HH.below hS
        replace LL := LL.below hS
        replace HB := HB.trans (hS.mono HB.size)
        clear hS
        refine then_nrm ?_
        show Code.wp Try.prog _ _ _ _
        refine wp_ret ?_
        refine blk_ret ?_
        refine then_ret ?_
        refine ret_tmp (j := 6) (by kernel_rfl) hA (by decide) rfl ?_
        refine ⟨congrArg (fun x : Int => Ending.returned (.int .u64 x)) ?_, HB⟩
        have e := eq_of_beq c1
        subst e
        rfl
      exact AllReadyH.nil
    exact AllReadyH.nil
  refine W_test hA rfl (by decide) (by decide) rfl rfl (fun c2 a hA => ?_) (fun c2 a hA => ?_)
  · skip
    refine wp_seq ?_
    refine wp_region_list ?_
    refine W_val hA rfl 20 rfl (by decide) _ _ (R_row hA rfl rfl HH Try.underlying25 (size_hart.trans (by rw [varr_size]))) (fun a hA => ?_)
    refine W_val hA rfl 21 rfl (by decide) _ _ (R_row hA rfl rfl LL Try.underlying27 (by kernel_rfl)) (fun a hA => ?_)
    refine W_call2 hA (by decide) (fun _ _ => by kernel_rfl) rfl rfl (pend_any _ ok _ _) (fun w6 hw a hA => ?_)
    replace HB := HB.trans (hw.mono HB.size)
    replace HH := HH.below hw
    replace LL := LL.below hw
    clear hw
    refine W_val hA rfl 6 rfl (by decide) _ _ (R_asg hA rfl rfl _) (fun a hA => ?_)
    refine W_nil ?_
    refine then_nrm ?_
    show Code.wp Try.prog _ _ _ _
    refine wp_ret ?_
    refine blk_ret ?_
    refine then_ret ?_
    refine ret_tmp (j := 6) (by kernel_rfl) hA (by decide) rfl ?_
    refine ⟨congrArg (fun x : Int => Ending.returned (.int .u64 x)) ?_, HB⟩
    have e := eq_of_beq c2
    subst e
    rfl
  refine W_tests hA (sets_more rfl (by decide) (by decide) rfl rfl (sets_one rfl (by decide) (by decide) rfl rfl)) (fun c3 a hA => ?_) (fun c3 a hA => ?_)
  · skip
    refine wp_seq ?_
    refine wp_region_held_drew (S := fun wx => Below w2.heap.size w2 wx) (by kernel_rfl) ((Below.refl _ _).drew) (fun hS => ?_)
    refine takeF (i := 0) hA 26 rfl rfl (by decide) rfl (by kernel_rfl) (by kernel_rfl) (by kernel_rfl) (fun _ _ _ h => h) hS (fun wx hx => R_row hA rfl rfl (HH.below hx) Try.underlying25 (size_hart.trans (by rw [varr_size]))) (fun a hA => ?_)
    refine takeF (i := 1) hA 27 rfl rfl (by decide) rfl (by kernel_rfl) (by kernel_rfl) (by kernel_rfl) (fun _ _ _ h => h) hS (fun wx hx => R_row hA rfl rfl (LL.below hx) Try.underlying27 (by kernel_rfl)) (fun a hA => ?_)
    refine takeF (i := 3) hA 29 rfl rfl (by decide) rfl (by kernel_rfl) (by kernel_rfl) (by kernel_rfl) (fun _ _ _ h => h) hS (fun wx hx => R_row hA rfl rfl (HH.below hx) Try.underlying25 (size_hart.trans (by rw [varr_size]))) (fun a hA => ?_)
    refine takeF (i := 4) hA 30 rfl rfl (by decide) rfl (by kernel_rfl) (by kernel_rfl) (by kernel_rfl) (fun _ _ _ h => h) hS (fun wx hx => R_mov hA rfl rfl _) (fun a hA => ?_)
    refine wpAnyH_ready (rs := [2]) (by kernel_rfl) (by simp) ?_
    refine ready_call (i := 2) hA (by decide) rfl (fun _ _ => by kernel_rfl) (args2 hA rfl rfl) (pend_any _ ok _ _) (fun _ h => hS.trans (h.mono hS.size)) (fun w7 hw a hA => ?_) ?_
    · skip
      replace hS := hS.trans (hw.mono hS.size)
      clear hw
      refine wpAnyH_ready (rs := [5]) (by kernel_rfl) (by simp) ?_
      refine ready_call (i := 5) hA (by decide) rfl (fun _ _ => by kernel_rfl) (args2 hA rfl rfl) (part_any _ _ _) (fun _ h => hS.trans (h.mono hS.size)) (fun w8 hw a hA => ?_) ?_
      · skip
        replace hS := hS.trans (hw.mono hS.size)
        clear hw
        refine takeF (i := 6) hA 32 rfl rfl (by decide) rfl (by kernel_rfl) (by kernel_rfl) (by kernel_rfl) (fun _ _ _ h => h) hS (fun wx hx => R_and hA rfl rfl rfl _) (fun a hA => ?_)
        refine takeF (i := 7) hA 6 rfl rfl (by decide) rfl (by kernel_rfl) (by kernel_rfl) (by kernel_rfl) (fun _ _ _ h => h) hS (fun wx hx => R_asg hA rfl rfl _) (fun a hA => ?_)
        refine wpAnyH_done (by kernel_rfl) ?_ _
        replace HH := HH.below hS
        replace LL := LL.below hS
        replace HB := HB.trans (hS.mono HB.size)
        clear hS
        refine then_nrm ?_
        show Code.wp Try.prog _ _ _ _
        refine wp_ret ?_
        refine blk_ret ?_
        refine then_ret ?_
        refine ret_tmp (j := 6) (by kernel_rfl) hA (by decide) rfl ?_
        refine ⟨congrArg (fun x : Int => Ending.returned (.int .u64 x)) ?_, HB⟩
        have e : m = 324 ∨ m = 1604 := by simpa using c3
        rcases e with e | e
        all_goals
          subst e
          rfl
      exact AllReadyH.nil
    exact AllReadyH.nil
  refine W_test hA rfl (by decide) (by decide) rfl rfl (fun c4 a hA => ?_) (fun c4 a hA => ?_)
  · skip
    refine wp_seq ?_
    refine wp_region_held_drew (S := fun wx => Below w2.heap.size w2 wx) (by kernel_rfl) ((Below.refl _ _).drew) (fun hS => ?_)
    refine takeF (i := 0) hA 35 rfl rfl (by decide) rfl (by kernel_rfl) (by kernel_rfl) (by kernel_rfl) (fun _ _ _ h => h) hS (fun wx hx => R_row hA rfl rfl (HH.below hx) Try.underlying25 (size_hart.trans (by rw [varr_size]))) (fun a hA => ?_)
    refine takeF (i := 1) hA 36 rfl rfl (by decide) rfl (by kernel_rfl) (by kernel_rfl) (by kernel_rfl) (fun _ _ _ h => h) hS (fun wx hx => R_row hA rfl rfl (LL.below hx) Try.underlying27 (by kernel_rfl)) (fun a hA => ?_)
    refine takeF (i := 3) hA 38 rfl rfl (by decide) rfl (by kernel_rfl) (by kernel_rfl) (by kernel_rfl) (fun _ _ _ h => h) hS (fun wx hx => R_row hA rfl rfl (HH.below hx) Try.underlying25 (size_hart.trans (by rw [varr_size]))) (fun a hA => ?_)
    refine takeF (i := 4) hA 39 rfl rfl (by decide) rfl (by kernel_rfl) (by kernel_rfl) (by kernel_rfl) (fun _ _ _ h => h) hS (fun wx hx => R_mov hA rfl rfl _) (fun a hA => ?_)
    refine wpAnyH_ready (rs := [2]) (by kernel_rfl) (by simp) ?_
    refine ready_call (i := 2) hA (by decide) rfl (fun _ _ => by kernel_rfl) (args2 hA rfl rfl) (pend_any _ ok _ _) (fun _ h => hS.trans (h.mono hS.size)) (fun w10 hw a hA => ?_) ?_
    · skip
      replace hS := hS.trans (hw.mono hS.size)
      clear hw
      refine wpAnyH_ready (rs := [5]) (by kernel_rfl) (by simp) ?_
      refine ready_call (i := 5) hA (by decide) rfl (fun _ _ => by kernel_rfl) (args2 hA rfl rfl) (part_any _ _ _) (fun _ h => hS.trans (h.mono hS.size)) (fun w11 hw a hA => ?_) ?_
      · skip
        replace hS := hS.trans (hw.mono hS.size)
        clear hw
        refine takeF (i := 6) hA 41 rfl rfl (by decide) rfl (by kernel_rfl) (by kernel_rfl) (by kernel_rfl) (fun _ _ _ h => h) hS (fun wx hx => R_and hA rfl rfl rfl _) (fun a hA => ?_)
        refine takeF (i := 7) hA 42 rfl rfl (by decide) rfl (by kernel_rfl) (by kernel_rfl) (by kernel_rfl) (fun _ _ _ h => h) hS (fun wx hx => R_shr1 hA rfl rfl (by first | exact (and_in _ _).1 | exact h0) rfl _) (fun a hA => ?_)
        refine takeF (i := 8) hA 6 rfl rfl (by decide) rfl (by kernel_rfl) (by kernel_rfl) (by kernel_rfl) (fun _ _ _ h => h) hS (fun wx hx => R_asg hA rfl rfl _) (fun a hA => ?_)
        refine wpAnyH_done (by kernel_rfl) ?_ _
        replace HH := HH.below hS
        replace LL := LL.below hS
        replace HB := HB.trans (hS.mono HB.size)
        clear hS
        refine then_nrm ?_
        show Code.wp Try.prog _ _ _ _
        refine wp_ret ?_
        refine blk_ret ?_
        refine then_ret ?_
        refine ret_tmp (j := 6) (by kernel_rfl) hA (by decide) rfl ?_
        refine ⟨congrArg (fun x : Int => Ending.returned (.int .u64 x)) ?_, HB⟩
        have e := eq_of_beq c4
        subst e
        rfl
      exact AllReadyH.nil
    exact AllReadyH.nil
  refine W_tests hA (sets_more rfl (by decide) (by decide) rfl rfl (sets_one rfl (by decide) (by decide) rfl rfl)) (fun c5 a hA => ?_) (fun c5 a hA => ?_)
  · skip
    refine wp_seq ?_
    refine wp_region_held_drew (S := fun wx => Below w2.heap.size w2 wx) (by kernel_rfl) ((Below.refl _ _).drew) (fun hS => ?_)
    refine takeF (i := 0) hA 46 rfl rfl (by decide) rfl (by kernel_rfl) (by kernel_rfl) (by kernel_rfl) (fun _ _ _ h => h) hS (fun wx hx => R_fa hA rfl rfl (fun w => fa_hart _ 10 41 (by decide) rfl w) _) (fun a hA => ?_)
    refine takeF (i := 1) hA 47 rfl rfl (by decide) rfl (by kernel_rfl) (by kernel_rfl) (by kernel_rfl) (fun _ _ _ h => h) hS (fun wx hx => R_ld hA rfl rfl ag_u64 ((HH.below hx).u 41 (by decide) (by decide))) (fun a hA => ?_)
    refine takeF (i := 2) hA 48 rfl rfl (by decide) rfl (by kernel_rfl) (by kernel_rfl) (by kernel_rfl) (fun _ _ _ h => h) hS (fun wx hx => R_row hA rfl rfl (HH.below hx) Try.underlying25 (size_hart.trans (by rw [varr_size]))) (fun a hA => ?_)
    refine takeF (i := 3) hA 49 rfl rfl (by decide) rfl (by kernel_rfl) (by kernel_rfl) (by kernel_rfl) (fun _ _ _ h => h) hS (fun wx hx => R_mov hA rfl rfl _) (fun a hA => ?_)
    refine wpAnyH_ready (rs := [4]) (by kernel_rfl) (by simp) ?_
    refine ready_call (i := 4) hA (by decide) rfl (fun _ _ => by kernel_rfl) (args2 hA rfl rfl) (part_any _ _ _) (fun _ h => hS.trans (h.mono hS.size)) (fun w13 hw a hA => ?_) ?_
    · skip
      replace hS := hS.trans (hw.mono hS.size)
      clear hw
      refine takeF (i := 5) hA 51 rfl rfl (by decide) rfl (by kernel_rfl) (by kernel_rfl) (by kernel_rfl) (fun _ _ _ h => h) hS (fun wx hx => R_and hA rfl rfl rfl _) (fun a hA => ?_)
      refine takeF (i := 6) hA 6 rfl rfl (by decide) rfl (by kernel_rfl) (by kernel_rfl) (by kernel_rfl) (fun _ _ _ h => h) hS (fun wx hx => R_asg hA rfl rfl _) (fun a hA => ?_)
      refine wpAnyH_done (by kernel_rfl) ?_ _
      replace HH := HH.below hS
      replace LL := LL.below hS
      replace HB := HB.trans (hS.mono HB.size)
      clear hS
      refine then_nrm ?_
      show Code.wp Try.prog _ _ _ _
      refine wp_ret ?_
      refine blk_ret ?_
      refine then_ret ?_
      refine ret_tmp (j := 6) (by kernel_rfl) hA (by decide) rfl ?_
      refine ⟨congrArg (fun x : Int => Ending.returned (.int .u64 x)) ?_, HB⟩
      have e : m = 260 ∨ m = 1540 := by simpa using c5
      rcases e with e | e
      all_goals
        subst e
        rfl
    exact AllReadyH.nil
  refine W_test hA rfl (by decide) (by decide) rfl rfl (fun c6 a hA => ?_) (fun c6 a hA => ?_)
  · skip
    refine wp_seq ?_
    refine wp_region_held_drew (S := fun wx => Below w2.heap.size w2 wx) (by kernel_rfl) ((Below.refl _ _).drew) (fun hS => ?_)
    refine takeF (i := 0) hA 54 rfl rfl (by decide) rfl (by kernel_rfl) (by kernel_rfl) (by kernel_rfl) (fun _ _ _ h => h) hS (fun wx hx => R_fa hA rfl rfl (fun w => fa_hart _ 10 41 (by decide) rfl w) _) (fun a hA => ?_)
    refine takeF (i := 1) hA 55 rfl rfl (by decide) rfl (by kernel_rfl) (by kernel_rfl) (by kernel_rfl) (fun _ _ _ h => h) hS (fun wx hx => R_ld hA rfl rfl ag_u64 ((HH.below hx).u 41 (by decide) (by decide))) (fun a hA => ?_)
    refine takeF (i := 2) hA 56 rfl rfl (by decide) rfl (by kernel_rfl) (by kernel_rfl) (by kernel_rfl) (fun _ _ _ h => h) hS (fun wx hx => R_row hA rfl rfl (HH.below hx) Try.underlying25 (size_hart.trans (by rw [varr_size]))) (fun a hA => ?_)
    refine takeF (i := 3) hA 57 rfl rfl (by decide) rfl (by kernel_rfl) (by kernel_rfl) (by kernel_rfl) (fun _ _ _ h => h) hS (fun wx hx => R_mov hA rfl rfl _) (fun a hA => ?_)
    refine wpAnyH_ready (rs := [4]) (by kernel_rfl) (by simp) ?_
    refine ready_call (i := 4) hA (by decide) rfl (fun _ _ => by kernel_rfl) (args2 hA rfl rfl) (part_any _ _ _) (fun _ h => hS.trans (h.mono hS.size)) (fun w15 hw a hA => ?_) ?_
    · skip
      replace hS := hS.trans (hw.mono hS.size)
      clear hw
      refine takeF (i := 5) hA 59 rfl rfl (by decide) rfl (by kernel_rfl) (by kernel_rfl) (by kernel_rfl) (fun _ _ _ h => h) hS (fun wx hx => R_and hA rfl rfl rfl _) (fun a hA => ?_)
      refine takeF (i := 6) hA 60 rfl rfl (by decide) rfl (by kernel_rfl) (by kernel_rfl) (by kernel_rfl) (fun _ _ _ h => h) hS (fun wx hx => R_shr1 hA rfl rfl (by first | exact (and_in _ _).1 | exact h0) rfl _) (fun a hA => ?_)
      refine takeF (i := 7) hA 6 rfl rfl (by decide) rfl (by kernel_rfl) (by kernel_rfl) (by kernel_rfl) (fun _ _ _ h => h) hS (fun wx hx => R_asg hA rfl rfl _) (fun a hA => ?_)
      refine wpAnyH_done (by kernel_rfl) ?_ _
      replace HH := HH.below hS
      replace LL := LL.below hS
      replace HB := HB.trans (hS.mono HB.size)
      clear hS
      refine then_nrm ?_
      show Code.wp Try.prog _ _ _ _
      refine wp_ret ?_
      refine blk_ret ?_
      refine then_ret ?_
      refine ret_tmp (j := 6) (by kernel_rfl) hA (by decide) rfl ?_
      refine ⟨congrArg (fun x : Int => Ending.returned (.int .u64 x)) ?_, HB⟩
      have e := eq_of_beq c6
      subst e
      rfl
    exact AllReadyH.nil
  refine W_test hA rfl (by decide) (by decide) rfl rfl (fun c7 a hA => ?_) (fun c7 a hA => ?_)
  · skip
    refine wp_seq ?_
    refine wp_region_list ?_
    refine W_val hA rfl 63 rfl (by decide) _ _ (R_fa hA rfl rfl (fun w => fa_lines _ 4 (by decide) w) _) (fun a hA => ?_)
    refine W_val hA rfl 64 rfl (by decide) _ _ (R_ld hA rfl rfl ag_u64 (LL.c4)) (fun a hA => ?_)
    refine W_val hA rfl 65 rfl (by decide) _ _ (R_and hA rfl rfl rfl _) (fun a hA => ?_)
    refine W_val hA rfl 6 rfl (by decide) _ _ (R_asg hA rfl rfl _) (fun a hA => ?_)
    refine W_nil ?_
    refine then_nrm ?_
    show Code.wp Try.prog _ _ _ _
    refine wp_ret ?_
    refine blk_ret ?_
    refine then_ret ?_
    refine ret_tmp (j := 6) (by kernel_rfl) hA (by decide) rfl ?_
    refine ⟨congrArg (fun x : Int => Ending.returned (.int .u64 x)) ?_, HB⟩
    have e := eq_of_beq c7
    subst e
    rfl
  refine W_test hA rfl (by decide) (by decide) rfl rfl (fun c8 a hA => ?_) (fun c8 a hA => ?_)
  · skip
    refine wp_seq ?_
    refine wp_region_list ?_
    refine W_val hA rfl 68 rfl (by decide) _ _ (R_fa hA rfl rfl (fun w => fa_hart _ 44 75 (by decide) rfl w) _) (fun a hA => ?_)
    refine W_val hA rfl 69 rfl (by decide) _ _ (R_ld hA rfl rfl ag_u64 (HH.u 75 (by decide) (by decide))) (fun a hA => ?_)
    refine W_val hA rfl 6 rfl (by decide) _ _ (R_asg hA rfl rfl _) (fun a hA => ?_)
    refine W_nil ?_
    refine then_nrm ?_
    show Code.wp Try.prog _ _ _ _
    refine wp_ret ?_
    refine blk_ret ?_
    refine then_ret ?_
    refine ret_tmp (j := 6) (by kernel_rfl) hA (by decide) rfl ?_
    refine ⟨congrArg (fun x : Int => Ending.returned (.int .u64 x)) ?_, HB⟩
    have e := eq_of_beq c8
    subst e
    rfl
  refine W_test hA rfl (by decide) (by decide) rfl rfl (fun c9 a hA => ?_) (fun c9 a hA => ?_)
  · skip
    refine wp_seq ?_
    refine wp_region_list ?_
    refine W_val hA rfl 72 rfl (by decide) _ _ (R_fa hA rfl rfl (fun w => fa_hart _ 45 76 (by decide) rfl w) _) (fun a hA => ?_)
    refine W_val hA rfl 73 rfl (by decide) _ _ (R_ld hA rfl rfl ag_u64 (HH.u 76 (by decide) (by decide))) (fun a hA => ?_)
    refine W_val hA rfl 6 rfl (by decide) _ _ (R_asg hA rfl rfl _) (fun a hA => ?_)
    refine W_nil ?_
    refine then_nrm ?_
    show Code.wp Try.prog _ _ _ _
    refine wp_ret ?_
    refine blk_ret ?_
    refine then_ret ?_
    refine ret_tmp (j := 6) (by kernel_rfl) hA (by decide) rfl ?_
    refine ⟨congrArg (fun x : Int => Ending.returned (.int .u64 x)) ?_, HB⟩
    have e := eq_of_beq c9
    subst e
    rfl
  refine W_test hA rfl (by decide) (by decide) rfl rfl (fun c10 a hA => ?_) (fun c10 a hA => ?_)
  · skip
    refine wp_seq ?_
    refine wp_seq ?_
    refine wp_region_list ?_
    refine W_val hA rfl 76 rfl (by decide) _ _ (R_fa hA rfl rfl (fun w => fa_hart _ 3 34 (by decide) rfl w) _) (fun a hA => ?_)
    refine W_val hA rfl 77 rfl (by decide) _ _ (R_ld hA rfl rfl ag_bool HH.v) (fun a hA => ?_)
    refine W_nil ?_
    refine then_nrm ?_
    show Code.wp Try.prog _ _ _ _
    refine wp_cond_split (hA.ev (x := .tmp 77) rfl) (fun c11 => ?_) (fun c11 => ?_)
    · skip
      refine wp_seq ?_
      refine wp_region_list ?_
      refine W_val hA rfl 78 rfl (by decide) _ _ (R_fa hA rfl rfl (fun w => fa_lines _ 5 (by decide) w) _) (fun a hA => ?_)
      refine W_val hA rfl 79 rfl (by decide) _ _ (R_ld hA rfl rfl ag_u64 (LL.c5)) (fun a hA => ?_)
      refine W_val hA rfl 80 rfl (by decide) _ _ (R_fa hA rfl rfl (fun w => fa_hart _ 36 67 (by decide) rfl w) _) (fun a hA => ?_)
      refine W_val hA rfl 81 rfl (by decide) _ _ (R_ld hA rfl rfl ag_u64 (HH.u 67 (by decide) (by decide))) (fun a hA => ?_)
      refine W_val hA rfl 82 rfl (by decide) _ _ (R_add hA rfl rfl rfl _) (fun a hA => ?_)
      refine W_val hA rfl 6 rfl (by decide) _ _ (R_asg hA rfl rfl _) (fun a hA => ?_)
      refine W_nil ?_
      refine then_nrm ?_
      show Code.wp Try.prog _ _ _ _
      refine wp_ret ?_
      refine then_ret ?_
      refine blk_ret ?_
      refine then_ret ?_
      refine ret_tmp (j := 6) (by kernel_rfl) hA (by decide) rfl ?_
      refine ⟨congrArg (fun x : Int => Ending.returned (.int .u64 x)) ?_, HB⟩
      have e := eq_of_beq c10
      subst e
      show _ = (if t.v = true then IntKind.u64.wrap (l.tm + t.n 67) else l.tm)
      rw [c11]; rfl
    refine wp_skip ?_
    refine then_nrm ?_
    show Code.wp Try.prog _ _ _ _
    refine wp_seq ?_
    refine wp_region_list ?_
    refine W_val hA rfl 83 rfl (by decide) _ _ (R_fa hA rfl rfl (fun w => fa_lines _ 5 (by decide) w) _) (fun a hA => ?_)
    refine W_val hA rfl 84 rfl (by decide) _ _ (R_ld hA rfl rfl ag_u64 (LL.c5)) (fun a hA => ?_)
    refine W_val hA rfl 6 rfl (by decide) _ _ (R_asg hA rfl rfl _) (fun a hA => ?_)
    refine W_nil ?_
    refine then_nrm ?_
    show Code.wp Try.prog _ _ _ _
    refine wp_ret ?_
    refine blk_ret ?_
    refine then_ret ?_
    refine ret_tmp (j := 6) (by kernel_rfl) hA (by decide) rfl ?_
    refine ⟨congrArg (fun x : Int => Ending.returned (.int .u64 x)) ?_, HB⟩
    have e := eq_of_beq c10
    subst e
    show _ = (if t.v = true then IntKind.u64.wrap (l.tm + t.n 67) else l.tm)
    rw [c11]; rfl
  refine W_test hA rfl (by decide) (by decide) rfl rfl (fun c12 a hA => ?_) (fun c12 a hA => ?_)
  · skip
    refine wp_seq ?_
    refine wp_region_list ?_
    refine W_val hA rfl 6 rfl (by decide) _ _ (R_asg hA rfl rfl _) (fun a hA => ?_)
    refine W_nil ?_
    refine then_nrm ?_
    show Code.wp Try.prog _ _ _ _
    refine wp_ret ?_
    refine blk_ret ?_
    refine then_ret ?_
    refine ret_tmp (j := 6) (by kernel_rfl) hA (by decide) rfl ?_
    refine ⟨congrArg (fun x : Int => Ending.returned (.int .u64 x)) ?_, HB⟩
    have e := eq_of_beq c12
    subst e
    rfl
  refine wp_skip ?_
  refine blk_nrm ?_
  refine then_nrm ?_
  show Code.wp Try.prog _ _ _ _
  refine wp_seq ?_
  refine wp_region_list ?_
  refine W_val hA rfl 6 rfl (by decide) _ _ (R_asg hA rfl rfl _) (fun a hA => ?_)
  refine W_nil ?_
  refine then_nrm ?_
  show Code.wp Try.prog _ _ _ _
  refine wp_ret ?_
  refine ret_tmp (j := 6) (by kernel_rfl) hA (by decide) rfl ?_
  refine ⟨congrArg (fun x : Int => Ending.returned (.int .u64 x)) ?_, HB⟩
  have dc1 : ¬ m = 256 := beq_eq_false_iff_ne.1 c1
  have dc2 : ¬ m = 836 := beq_eq_false_iff_ne.1 c2
  have dc3 : ¬ m = 324 ∧ ¬ m = 1604 := by simpa using c3
  have dc4 : ¬ m = 580 := beq_eq_false_iff_ne.1 c4
  have dc5 : ¬ m = 260 ∧ ¬ m = 1540 := by simpa using c5
  have dc6 : ¬ m = 516 := beq_eq_false_iff_ne.1 c6
  have dc7 : ¬ m = 3602 := beq_eq_false_iff_ne.1 c7
  have dc8 : ¬ m = 3072 := beq_eq_false_iff_ne.1 c8
  have dc9 : ¬ m = 3074 := beq_eq_false_iff_ne.1 c9
  have dc10 : ¬ m = 3073 := beq_eq_false_iff_ne.1 c10
  have dc12 : ¬ m = 769 := beq_eq_false_iff_ne.1 c12
  unfold viewR
  rw [if_neg dc1, if_neg dc2, if_neg dc3.1, if_neg dc3.2, if_neg dc4, if_neg dc5.1, if_neg dc5.2, if_neg dc6, if_neg dc7, if_neg dc8, if_neg dc9, if_neg dc10, if_neg dc12]
theorem at_some {b : Nat} {no : Int} (h : (atF b no).isSome = true) : ixF no < 38 ∧ atF b no = some ⟨b, clF (ixF no), none⟩ := by
  unfold atF at *
  by_cases c : ixF no < 38
  · exact ⟨c, if_pos c⟩
  · rw [if_neg c] at h; cases h
theorem at_none {b : Nat} {no : Int} (h : (atF b no).isSome = false) : ¬ ixF no < 38 := fun c => by
  unfold atF at h; rw [if_pos c] at h; cases h
set_option maxHeartbeats 8000000 in
theorem read_any (t : HS) (ok : HOk t) (l : LS) (no : Int) (w : World) : Calls Try.prog 13 #[hartV t, linesV l, .int .i64 no] w fun e w' => e = .returned (.int .u64 (readZ t l no)) ∧ Below w.heap.size w w' := by
  have HB := Below.refl w.heap.size w
  go_enter Try.func13, Try.ntmps13
  refine begin_fr [(2, .int .i64 no), (1, linesV l), (0, hartV t)] 22 ?_ (fun a hA => ?_)
  · exact FrA.add (FrA.add (FrA.add (FrA.nil (by rfl) (by rfl)) 0 _ (by rfl)) 1 _ (by rfl)) 2 _ (by rfl)
  refine wp_seq ?_
  refine wp_region_list ?_
  refine W_boxH hA rfl 3 rfl (by decide) rfl rfl (fun w1 bHH a hA hb HH gHH => ?_)
  replace gHH := Nat.le_trans HB.size gHH
  replace HB := HB.trans (hb.mono HB.size)
  clear hb
  refine W_boxL hA rfl 4 rfl (by decide) rfl rfl (fun w2 bLL a hA hb LL gLL => ?_)
  have nHHLL : bHH < bLL := by have := HH.lt; omega
  replace HH := HH.below hb
  replace gLL := Nat.le_trans HB.size gLL
  replace HB := HB.trans (hb.mono HB.size)
  clear hb
  refine W_val hA rfl 6 rfl (by decide) _ _ (R_asg hA rfl rfl _) (fun a hA => ?_)
  refine W_nil ?_
  refine then_nrm ?_
  show Code.wp Try.prog _ _ _ _
  refine wp_seq ?_
  refine wp_region_list ?_
  refine W_val hA rfl 8 rfl (by decide) _ _ (R_row hA rfl rfl HH Try.underlying25 (size_hart.trans (by rw [varr_size]))) (fun a hA => ?_)
  refine W_val hA rfl 9 rfl (by decide) _ _ (R_mov hA rfl rfl _) (fun a hA => ?_)
  refine W_call2 hA (by decide) (fun _ _ => by kernel_rfl) rfl rfl (meant_any _ _ _) (fun w3 hw a hA => ?_)
  replace HB := HB.trans (hw.mono HB.size)
  replace HH := HH.below hw
  replace LL := LL.below hw
  clear hw
  refine W_val hA rfl 2 rfl (by decide) _ _ (R_asg hA rfl rfl _) (fun a hA => ?_)
  refine W_nil ?_
  refine then_nrm ?_
  show Code.wp Try.prog _ _ _ _
  refine wp_seq ?_
  refine wp_seq ?_
  refine wp_region_list ?_
  refine W_val hA rfl 11 rfl (by decide) _ _ (R_mov hA rfl rfl _) (fun a hA => ?_)
  refine W_call2 hA (by decide) (fun _ _ => by kernel_rfl) rfl rfl (field_any _ _ _) (fun w4 hw a hA => ?_)
  replace HB := HB.trans (hw.mono HB.size)
  replace HH := HH.below hw
  replace LL := LL.below hw
  clear hw
  refine W_val hA rfl 7 rfl (by decide) _ _ (R_asg hA rfl rfl _) (fun a hA => ?_)
  refine W_nil ?_
  refine then_nrm ?_
  show Code.wp Try.prog _ _ _ _
  refine wp_seq ?_
  refine wp_region_list ?_
  refine W_val hA rfl 13 rfl (by decide) _ _ (R_mov hA rfl rfl _) (fun a hA => ?_)
  refine W_val hA rfl 14 rfl (by decide) _ _ (R_neqP hA rfl rfl rfl _) (fun a hA => ?_)
  refine W_nil ?_
  refine then_nrm ?_
  show Code.wp Try.prog _ _ _ _
  refine wp_cond_split (hA.ev (x := .tmp 14) rfl) (fun c1 => ?_) (fun c1 => ?_)
  · skip
    obtain ⟨hk, hat⟩ := at_some c1
    rw [hat] at hA
    obtain ⟨k1, k2, k3⟩ := clF_in _ hk
    refine wp_seq ?_
    refine wp_region_list ?_
    refine W_val hA rfl 15 rfl (by decide) _ _ (R_mov hA rfl rfl _) (fun a hA => ?_)
    refine W_val hA rfl 16 rfl (by decide) _ _ (R_nilCheck hA rfl rfl _) (fun a hA => ?_)
    refine W_val hA rfl 17 rfl (by decide) _ _ (R_ld hA rfl rfl ag_u64 (HH.u _ k2 (.inr (by omega)))) (fun a hA => ?_)
    refine W_val hA rfl 6 rfl (by decide) _ _ (R_asg hA rfl rfl _) (fun a hA => ?_)
    refine W_nil ?_
    refine then_nrm ?_
    show Code.wp Try.prog _ _ _ _
    refine wp_ret ?_
    refine then_ret ?_
    refine ret_tmp (j := 6) (by kernel_rfl) hA (by decide) rfl ?_
    refine ⟨congrArg (fun x : Int => Ending.returned (.int .u64 x)) ?_, HB⟩
    unfold readZ readM
    rw [if_pos hk]
  have hk := at_none c1
  refine wp_skip ?_
  refine then_nrm ?_
  show Code.wp Try.prog _ _ _ _
  refine wp_seq ?_
  refine wp_region_list ?_
  refine W_val hA rfl 18 rfl (by decide) _ _ (R_row hA rfl rfl HH Try.underlying25 (size_hart.trans (by rw [varr_size]))) (fun a hA => ?_)
  refine W_val hA rfl 19 rfl (by decide) _ _ (R_row hA rfl rfl LL Try.underlying27 (by kernel_rfl)) (fun a hA => ?_)
  refine W_val hA rfl 20 rfl (by decide) _ _ (R_mov hA rfl rfl _) (fun a hA => ?_)
  refine W_call3 hA (by decide) (fun _ _ => by kernel_rfl) rfl rfl rfl (readView_any _ ok _ _ _) (fun w5 hw a hA => ?_)
  replace HB := HB.trans (hw.mono HB.size)
  replace HH := HH.below hw
  replace LL := LL.below hw
  clear hw
  refine W_val hA rfl 6 rfl (by decide) _ _ (R_asg hA rfl rfl _) (fun a hA => ?_)
  refine W_nil ?_
  refine then_nrm ?_
  show Code.wp Try.prog _ _ _ _
  refine wp_ret ?_
  refine ret_tmp (j := 6) (by kernel_rfl) hA (by decide) rfl ?_
  refine ⟨congrArg (fun x : Int => Ending.returned (.int .u64 x)) ?_, HB⟩
  unfold readZ readM
  rw [if_neg hk]
end Go.Proofs.Ytiblfdgmleckiaa
