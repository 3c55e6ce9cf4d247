/- Layer 12: part, meant, what is pending (written by gen_csd.py by walkf.py). -/
import Derived.Test.YtiblfdgmleckiaaCsB
import Derived.Test.YtiblfdgmleckiaaCsC
namespace Go.Proofs.Ytiblfdgmleckiaa
open Go.RowKit
set_option linter.unusedVariables false
set_option maxRecDepth 100000

def partC (t : HS) (no : Int) : Int := if (no == 324 || no == 260) = true then bits .and .u64 546 (t.n 40) else if (no == 1604 || no == 1540) = true then 5188 else if (no == 580 || no == 516) = true then bits .and .u64 1092 (t.n 60) else 0
set_option maxHeartbeats 4000000 in
theorem part_any (t : HS) (no : Int) (w : World) : Calls Try.prog 44 #[hartV t, .int .i64 no] w fun e w' => e = .returned (.int .u64 (partC t no)) ∧ Below w.heap.size w w' := by
  have HB := Below.refl w.heap.size w
  go_enter Try.func44, Try.ntmps44
  refine begin_fr [(1, .int .i64 no), (0, hartV t)] 21 ?_ (fun a hA => ?_)
  · exact FrA.add (FrA.add (FrA.nil (by rfl) (by rfl)) 0 _ (by rfl)) 1 _ (by rfl)
  refine wp_seq ?_
  refine wp_region_list ?_
  refine W_boxH hA rfl 2 rfl (by decide) rfl rfl (fun w1 bHH a hA hb HH gHH => ?_)
  replace gHH := Nat.le_trans HB.size gHH
  replace HB := HB.trans (hb.mono HB.size)
  clear hb
  refine W_val hA rfl 4 rfl (by decide) _ _ (R_asg hA rfl rfl _) (fun a hA => ?_)
  refine W_nil ?_
  refine then_nrm ?_
  show Code.wp Try.prog _ _ _ _
  refine wp_seq ?_
  refine wp_seq ?_
  refine wp_region_list ?_
  refine W_val hA rfl 5 rfl (by decide) _ _ (R_mov hA rfl rfl _) (fun a hA => ?_)
  refine W_nil ?_
  refine then_nrm ?_
  show Code.wp Try.prog _ _ _ _
  refine wp_block ?_
  refine W_tests hA (sets_more rfl (by decide) (by decide) rfl rfl (sets_one rfl (by decide) (by decide) rfl rfl)) (fun c1 a hA => ?_) (fun c1 a hA => ?_)
  · skip
    refine wp_seq ?_
    refine wp_region_list ?_
    refine W_val hA rfl 9 rfl (by decide) _ _ (R_fa hA rfl rfl (fun w => fa_hart _ 9 40 (by decide) rfl w) _) (fun a hA => ?_)
    refine W_val hA rfl 10 rfl (by decide) _ _ (R_ld hA rfl rfl ag_u64 (HH.u 40 (by decide) (by decide))) (fun a hA => ?_)
    refine W_val hA rfl 11 rfl (by decide) _ _ (R_and hA rfl rfl rfl _) (fun a hA => ?_)
    refine W_val hA rfl 4 rfl (by decide) _ _ (R_asg hA rfl rfl _) (fun a hA => ?_)
    refine W_nil ?_
    refine then_nrm ?_
    show Code.wp Try.prog _ _ _ _
    refine wp_ret ?_
    refine blk_ret ?_
    refine then_ret ?_
    refine ret_tmp (j := 4) (by kernel_rfl) hA (by decide) rfl ?_
    refine ⟨congrArg (fun x : Int => Ending.returned (.int .u64 x)) ?_, HB⟩
    unfold partC
    simp only [c1, if_true, if_false, Bool.false_eq_true]
    all_goals (first | rfl | decide +kernel)
  refine W_tests hA (sets_more rfl (by decide) (by decide) rfl rfl (sets_one rfl (by decide) (by decide) rfl rfl)) (fun c2 a hA => ?_) (fun c2 a hA => ?_)
  · skip
    refine wp_seq ?_
    refine wp_region_list ?_
    refine W_val hA rfl 4 rfl (by decide) _ _ (R_asg hA rfl rfl _) (fun a hA => ?_)
    refine W_nil ?_
    refine then_nrm ?_
    show Code.wp Try.prog _ _ _ _
    refine wp_ret ?_
    refine blk_ret ?_
    refine then_ret ?_
    refine ret_tmp (j := 4) (by kernel_rfl) hA (by decide) rfl ?_
    refine ⟨congrArg (fun x : Int => Ending.returned (.int .u64 x)) ?_, HB⟩
    unfold partC
    simp only [c1, c2, if_true, if_false, Bool.false_eq_true]
    all_goals (first | rfl | decide +kernel)
  refine W_tests hA (sets_more rfl (by decide) (by decide) rfl rfl (sets_one rfl (by decide) (by decide) rfl rfl)) (fun c3 a hA => ?_) (fun c3 a hA => ?_)
  · skip
    refine wp_seq ?_
    refine wp_region_list ?_
    refine W_val hA rfl 18 rfl (by decide) _ _ (R_fa hA rfl rfl (fun w => fa_hart _ 29 60 (by decide) rfl w) _) (fun a hA => ?_)
    refine W_val hA rfl 19 rfl (by decide) _ _ (R_ld hA rfl rfl ag_u64 (HH.u 60 (by decide) (by decide))) (fun a hA => ?_)
    refine W_val hA rfl 20 rfl (by decide) _ _ (R_and hA rfl rfl rfl _) (fun a hA => ?_)
    refine W_val hA rfl 4 rfl (by decide) _ _ (R_asg hA rfl rfl _) (fun a hA => ?_)
    refine W_nil ?_
    refine then_nrm ?_
    show Code.wp Try.prog _ _ _ _
    refine wp_ret ?_
    refine blk_ret ?_
    refine then_ret ?_
    refine ret_tmp (j := 4) (by kernel_rfl) hA (by decide) rfl ?_
    refine ⟨congrArg (fun x : Int => Ending.returned (.int .u64 x)) ?_, HB⟩
    unfold partC
    simp only [c1, c2, c3, if_true, if_false, Bool.false_eq_true]
    all_goals (first | rfl | decide +kernel)
  refine wp_skip ?_
  refine blk_nrm ?_
  refine then_nrm ?_
  show Code.wp Try.prog _ _ _ _
  refine wp_seq ?_
  refine wp_region_list ?_
  refine W_val hA rfl 4 rfl (by decide) _ _ (R_asg hA rfl rfl _) (fun a hA => ?_)
  refine W_nil ?_
  refine then_nrm ?_
  show Code.wp Try.prog _ _ _ _
  refine wp_ret ?_
  refine ret_tmp (j := 4) (by kernel_rfl) hA (by decide) rfl ?_
  refine ⟨congrArg (fun x : Int => Ending.returned (.int .u64 x)) ?_, HB⟩
  unfold partC
  simp only [c1, c2, c3, if_true, if_false, Bool.false_eq_true]
  all_goals (first | rfl | decide +kernel)
theorem meant_yes {no : Int} (h : nineB no = true) : IntKind.i64.wrap (IntKind.i64.wrap (no + 512) - 256) = no + 256 := by
  unfold nineB at h
  simp only [Bool.or_eq_true, beq_iff_eq] at h
  rcases h with h | h | h | h | h | h | h | h | h <;> subst h <;> rfl
set_option maxHeartbeats 4000000 in
theorem meant_any (t : HS) (no : Int) (w : World) : Calls Try.prog 28 #[hartV t, .int .i64 no] w fun e w' => e = .returned (.int .i64 (meantZ t.v no)) ∧ Below w.heap.size w w' := by
  have HB := Below.refl w.heap.size w
  go_enter Try.func28, Try.ntmps28
  refine begin_fr [(1, .int .i64 no), (0, hartV t)] 24 ?_ (fun a hA => ?_)
  · exact FrA.add (FrA.add (FrA.nil (by rfl) (by rfl)) 0 _ (by rfl)) 1 _ (by rfl)
  refine wp_seq ?_
  refine wp_region_list ?_
  refine W_boxH hA rfl 2 rfl (by decide) rfl rfl (fun w1 bHH a hA hb HH gHH => ?_)
  replace gHH := Nat.le_trans HB.size gHH
  replace HB := HB.trans (hb.mono HB.size)
  clear hb
  refine W_val hA rfl 4 rfl (by decide) _ _ (R_asg hA rfl rfl _) (fun a hA => ?_)
  refine W_nil ?_
  refine then_nrm ?_
  show Code.wp Try.prog _ _ _ _
  refine wp_seq ?_
  refine wp_seq ?_
  refine wp_region_list ?_
  refine W_val hA rfl 5 rfl (by decide) _ _ (R_fa hA rfl rfl (fun w => fa_hart _ 3 34 (by decide) rfl w) _) (fun a hA => ?_)
  refine W_val hA rfl 6 rfl (by decide) _ _ (R_ld hA rfl rfl ag_bool HH.v) (fun a hA => ?_)
  refine W_val hA rfl 7 rfl (by decide) _ _ (R_not hA rfl rfl _) (fun a hA => ?_)
  refine W_nil ?_
  refine then_nrm ?_
  show Code.wp Try.prog _ _ _ _
  refine wp_cond_split (hA.ev (x := .tmp 7) rfl) (fun c1 => ?_) (fun c1 => ?_)
  · skip
    refine wp_seq ?_
    refine wp_region_list ?_
    refine W_val hA rfl 8 rfl (by decide) _ _ (R_mov hA rfl rfl _) (fun a hA => ?_)
    refine W_val hA rfl 4 rfl (by decide) _ _ (R_asg hA rfl rfl _) (fun a hA => ?_)
    refine W_nil ?_
    refine then_nrm ?_
    show Code.wp Try.prog _ _ _ _
    refine wp_ret ?_
    refine then_ret ?_
    refine ret_tmp (j := 4) (by kernel_rfl) hA (by decide) rfl ?_
    refine ⟨congrArg (fun x : Int => Ending.returned (.int .i64 x)) ?_, HB⟩
    unfold meantZ
    rw [show t.v = false by simpa using c1]; rfl
  refine wp_skip ?_
  refine then_nrm ?_
  show Code.wp Try.prog _ _ _ _
  refine wp_seq ?_
  refine wp_seq ?_
  refine wp_region_list ?_
  refine W_val hA rfl 9 rfl (by decide) _ _ (R_mov hA rfl rfl _) (fun a hA => ?_)
  refine W_nil ?_
  refine then_nrm ?_
  show Code.wp Try.prog _ _ _ _
  refine wp_block ?_
  refine W_tests hA (sets_more rfl (by decide) (by decide) rfl rfl (sets_more rfl (by decide) (by decide) rfl rfl (sets_more rfl (by decide) (by decide) rfl rfl (sets_more rfl (by decide) (by decide) rfl rfl (sets_more rfl (by decide) (by decide) rfl rfl (sets_more rfl (by decide) (by decide) rfl rfl (sets_more rfl (by decide) (by decide) rfl rfl (sets_more rfl (by decide) (by decide) rfl rfl (sets_one rfl (by decide) (by decide) rfl rfl))))))))) (fun c2 a hA => ?_) (fun c2 a hA => ?_)
  · skip
    refine wp_seq ?_
    refine wp_region_list ?_
    refine W_val hA rfl 20 rfl (by decide) _ _ (R_mov hA rfl rfl _) (fun a hA => ?_)
    refine W_val hA rfl 21 rfl (by decide) _ _ (R_addI hA rfl rfl rfl _) (fun a hA => ?_)
    refine W_val hA rfl 22 rfl (by decide) _ _ (R_subI hA rfl rfl rfl _) (fun a hA => ?_)
    refine W_val hA rfl 4 rfl (by decide) _ _ (R_asg hA rfl rfl _) (fun a hA => ?_)
    refine W_nil ?_
    refine then_nrm ?_
    show Code.wp Try.prog _ _ _ _
    refine wp_ret ?_
    refine blk_ret ?_
    refine then_ret ?_
    refine ret_tmp (j := 4) (by kernel_rfl) hA (by decide) rfl ?_
    refine ⟨congrArg (fun x : Int => Ending.returned (.int .i64 x)) ?_, HB⟩
    unfold meantZ
    rw [show t.v = true by simpa using c1]
    have hn : nineB no = true := c2
    rw [hn]
    exact meant_yes hn
  refine wp_skip ?_
  refine blk_nrm ?_
  refine then_nrm ?_
  show Code.wp Try.prog _ _ _ _
  refine wp_seq ?_
  refine wp_region_list ?_
  refine W_val hA rfl 23 rfl (by decide) _ _ (R_mov hA rfl rfl _) (fun a hA => ?_)
  refine W_val hA rfl 4 rfl (by decide) _ _ (R_asg hA rfl rfl _) (fun a hA => ?_)
  refine W_nil ?_
  refine then_nrm ?_
  show Code.wp Try.prog _ _ _ _
  refine wp_ret ?_
  refine ret_tmp (j := 4) (by kernel_rfl) hA (by decide) rfl ?_
  refine ⟨congrArg (fun x : Int => Ending.returned (.int .i64 x)) ?_, HB⟩
  unfold meantZ
  rw [show t.v = true by simpa using c1]
  have hn : nineB no = false := c2
  rw [hn]
  rfl
set_option maxHeartbeats 4000000 in
theorem dmeant_any (t : HS) (no : Int) (w : World) : Calls Try.prog 31 #[hartV t, .int .i64 no] w fun e w' => e = .returned (.int .i64 (meantZ t.v no)) ∧ Below w.heap.size w w' := by
  have HB := Below.refl w.heap.size w
  go_enter Try.func31, Try.ntmps31
  refine begin_fr [(1, .int .i64 no), (0, hartV t)] 27 ?_ (fun a hA => ?_)
  · exact FrA.add (FrA.add (FrA.nil (by rfl) (by rfl)) 0 _ (by rfl)) 1 _ (by rfl)
  refine wp_seq ?_
  refine wp_region_list ?_
  refine W_boxH hA rfl 2 rfl (by decide) rfl rfl (fun w1 bHH a hA hb HH gHH => ?_)
  replace gHH := Nat.le_trans HB.size gHH
  replace HB := HB.trans (hb.mono HB.size)
  clear hb
  refine W_val hA rfl 4 rfl (by decide) _ _ (R_asg hA rfl rfl _) (fun a hA => ?_)
  refine W_nil ?_
  refine then_nrm ?_
  show Code.wp Try.prog _ _ _ _
  refine wp_seq ?_
  refine wp_seq ?_
  refine wp_region_list ?_
  refine W_val hA rfl 5 rfl (by decide) _ _ (R_fa hA rfl rfl (fun w => fa_hart _ 3 34 (by decide) rfl w) _) (fun a hA => ?_)
  refine W_val hA rfl 6 rfl (by decide) _ _ (R_ld hA rfl rfl ag_bool HH.v) (fun a hA => ?_)
  refine W_nil ?_
  refine then_nrm ?_
  show Code.wp Try.prog _ _ _ _
  refine wp_cond_split (hA.ev (x := .tmp 6) rfl) (fun c1 => ?_) (fun c1 => ?_)
  · skip
    refine wp_seq ?_
    refine wp_region_list ?_
    refine W_val hA rfl 7 rfl (by decide) _ _ (R_mov hA rfl rfl _) (fun a hA => ?_)
    refine W_nil ?_
    refine then_nrm ?_
    show Code.wp Try.prog _ _ _ _
    refine wp_block ?_
    refine W_test hA rfl (by decide) (by decide) rfl rfl (fun c2 a hA => ?_) (fun c2 a hA => ?_)
    · skip
      refine wp_seq ?_
      refine wp_region_list ?_
      refine W_val hA rfl 4 rfl (by decide) _ _ (R_asg hA rfl rfl _) (fun a hA => ?_)
      refine W_nil ?_
      refine then_nrm ?_
      show Code.wp Try.prog _ _ _ _
      refine wp_ret ?_
      refine blk_ret ?_
      refine then_ret ?_
      refine ret_tmp (j := 4) (by kernel_rfl) hA (by decide) rfl ?_
      refine ⟨congrArg (fun x : Int => Ending.returned (.int .i64 x)) ?_, HB⟩
      unfold meantZ nineB
      have := eq_of_beq c2
      subst this
      simp only [c1]
      rfl
    refine W_test hA rfl (by decide) (by decide) rfl rfl (fun c3 a hA => ?_) (fun c3 a hA => ?_)
    · skip
      refine wp_seq ?_
      refine wp_region_list ?_
      refine W_val hA rfl 4 rfl (by decide) _ _ (R_asg hA rfl rfl _) (fun a hA => ?_)
      refine W_nil ?_
      refine then_nrm ?_
      show Code.wp Try.prog _ _ _ _
      refine wp_ret ?_
      refine blk_ret ?_
      refine then_ret ?_
      refine ret_tmp (j := 4) (by kernel_rfl) hA (by decide) rfl ?_
      refine ⟨congrArg (fun x : Int => Ending.returned (.int .i64 x)) ?_, HB⟩
      unfold meantZ nineB
      have := eq_of_beq c3
      subst this
      simp only [c1]
      rfl
    refine W_test hA rfl (by decide) (by decide) rfl rfl (fun c4 a hA => ?_) (fun c4 a hA => ?_)
    · skip
      refine wp_seq ?_
      refine wp_region_list ?_
      refine W_val hA rfl 4 rfl (by decide) _ _ (R_asg hA rfl rfl _) (fun a hA => ?_)
      refine W_nil ?_
      refine then_nrm ?_
      show Code.wp Try.prog _ _ _ _
      refine wp_ret ?_
      refine blk_ret ?_
      refine then_ret ?_
      refine ret_tmp (j := 4) (by kernel_rfl) hA (by decide) rfl ?_
      refine ⟨congrArg (fun x : Int => Ending.returned (.int .i64 x)) ?_, HB⟩
      unfold meantZ nineB
      have := eq_of_beq c4
      subst this
      simp only [c1]
      rfl
    refine W_test hA rfl (by decide) (by decide) rfl rfl (fun c5 a hA => ?_) (fun c5 a hA => ?_)
    · skip
      refine wp_seq ?_
      refine wp_region_list ?_
      refine W_val hA rfl 4 rfl (by decide) _ _ (R_asg hA rfl rfl _) (fun a hA => ?_)
      refine W_nil ?_
      refine then_nrm ?_
      show Code.wp Try.prog _ _ _ _
      refine wp_ret ?_
      refine blk_ret ?_
      refine then_ret ?_
      refine ret_tmp (j := 4) (by kernel_rfl) hA (by decide) rfl ?_
      refine ⟨congrArg (fun x : Int => Ending.returned (.int .i64 x)) ?_, HB⟩
      unfold meantZ nineB
      have := eq_of_beq c5
      subst this
      simp only [c1]
      rfl
    refine W_test hA rfl (by decide) (by decide) rfl rfl (fun c6 a hA => ?_) (fun c6 a hA => ?_)
    · skip
      refine wp_seq ?_
      refine wp_region_list ?_
      refine W_val hA rfl 4 rfl (by decide) _ _ (R_asg hA rfl rfl _) (fun a hA => ?_)
      refine W_nil ?_
      refine then_nrm ?_
      show Code.wp Try.prog _ _ _ _
      refine wp_ret ?_
      refine blk_ret ?_
      refine then_ret ?_
      refine ret_tmp (j := 4) (by kernel_rfl) hA (by decide) rfl ?_
      refine ⟨congrArg (fun x : Int => Ending.returned (.int .i64 x)) ?_, HB⟩
      unfold meantZ nineB
      have := eq_of_beq c6
      subst this
      simp only [c1]
      rfl
    refine W_test hA rfl (by decide) (by decide) rfl rfl (fun c7 a hA => ?_) (fun c7 a hA => ?_)
    · skip
      refine wp_seq ?_
      refine wp_region_list ?_
      refine W_val hA rfl 4 rfl (by decide) _ _ (R_asg hA rfl rfl _) (fun a hA => ?_)
      refine W_nil ?_
      refine then_nrm ?_
      show Code.wp Try.prog _ _ _ _
      refine wp_ret ?_
      refine blk_ret ?_
      refine then_ret ?_
      refine ret_tmp (j := 4) (by kernel_rfl) hA (by decide) rfl ?_
      refine ⟨congrArg (fun x : Int => Ending.returned (.int .i64 x)) ?_, HB⟩
      unfold meantZ nineB
      have := eq_of_beq c7
      subst this
      simp only [c1]
      rfl
    refine W_test hA rfl (by decide) (by decide) rfl rfl (fun c8 a hA => ?_) (fun c8 a hA => ?_)
    · skip
      refine wp_seq ?_
      refine wp_region_list ?_
      refine W_val hA rfl 4 rfl (by decide) _ _ (R_asg hA rfl rfl _) (fun a hA => ?_)
      refine W_nil ?_
      refine then_nrm ?_
      show Code.wp Try.prog _ _ _ _
      refine wp_ret ?_
      refine blk_ret ?_
      refine then_ret ?_
      refine ret_tmp (j := 4) (by kernel_rfl) hA (by decide) rfl ?_
      refine ⟨congrArg (fun x : Int => Ending.returned (.int .i64 x)) ?_, HB⟩
      unfold meantZ nineB
      have := eq_of_beq c8
      subst this
      simp only [c1]
      rfl
    refine W_test hA rfl (by decide) (by decide) rfl rfl (fun c9 a hA => ?_) (fun c9 a hA => ?_)
    · skip
      refine wp_seq ?_
      refine wp_region_list ?_
      refine W_val hA rfl 4 rfl (by decide) _ _ (R_asg hA rfl rfl _) (fun a hA => ?_)
      refine W_nil ?_
      refine then_nrm ?_
      show Code.wp Try.prog _ _ _ _
      refine wp_ret ?_
      refine blk_ret ?_
      refine then_ret ?_
      refine ret_tmp (j := 4) (by kernel_rfl) hA (by decide) rfl ?_
      refine ⟨congrArg (fun x : Int => Ending.returned (.int .i64 x)) ?_, HB⟩
      unfold meantZ nineB
      have := eq_of_beq c9
      subst this
      simp only [c1]
      rfl
    refine W_test hA rfl (by decide) (by decide) rfl rfl (fun c10 a hA => ?_) (fun c10 a hA => ?_)
    · skip
      refine wp_seq ?_
      refine wp_region_list ?_
      refine W_val hA rfl 4 rfl (by decide) _ _ (R_asg hA rfl rfl _) (fun a hA => ?_)
      refine W_nil ?_
      refine then_nrm ?_
      show Code.wp Try.prog _ _ _ _
      refine wp_ret ?_
      refine blk_ret ?_
      refine then_ret ?_
      refine ret_tmp (j := 4) (by kernel_rfl) hA (by decide) rfl ?_
      refine ⟨congrArg (fun x : Int => Ending.returned (.int .i64 x)) ?_, HB⟩
      unfold meantZ nineB
      have := eq_of_beq c10
      subst this
      simp only [c1]
      rfl
    refine wp_skip ?_
    refine blk_nrm ?_
    refine then_nrm ?_
    show Code.wp Try.prog _ _ _ _
    refine wp_seq ?_
    refine wp_region_list ?_
    refine W_val hA rfl 26 rfl (by decide) _ _ (R_mov hA rfl rfl _) (fun a hA => ?_)
    refine W_val hA rfl 4 rfl (by decide) _ _ (R_asg hA rfl rfl _) (fun a hA => ?_)
    refine W_nil ?_
    refine then_nrm ?_
    show Code.wp Try.prog _ _ _ _
    refine wp_ret ?_
    refine ret_tmp (j := 4) (by kernel_rfl) hA (by decide) rfl ?_
    refine ⟨congrArg (fun x : Int => Ending.returned (.int .i64 x)) ?_, HB⟩
    unfold meantZ nineB
    simp only [c1, c2, c3, c4, c5, c6, c7, c8, c9, c10, Bool.or_false, Bool.and_false, if_true, if_false, Bool.false_eq_true]
  refine wp_skip ?_
  refine then_nrm ?_
  show Code.wp Try.prog _ _ _ _
  refine wp_seq ?_
  refine wp_region_list ?_
  refine W_val hA rfl 26 rfl (by decide) _ _ (R_mov hA rfl rfl _) (fun a hA => ?_)
  refine W_val hA rfl 4 rfl (by decide) _ _ (R_asg hA rfl rfl _) (fun a hA => ?_)
  refine W_nil ?_
  refine then_nrm ?_
  show Code.wp Try.prog _ _ _ _
  refine wp_ret ?_
  refine ret_tmp (j := 4) (by kernel_rfl) hA (by decide) rfl ?_
  refine ⟨congrArg (fun x : Int => Ending.returned (.int .i64 x)) ?_, HB⟩
  unfold meantZ nineB
  simp only [c1, Bool.false_and, if_true, if_false, Bool.false_eq_true]
end Go.Proofs.Ytiblfdgmleckiaa
