/- Layer 12: mask and set (written by gen_csc.py by walkf.py). -/
import Derived.Test.YtkfhpmleelmcfaaCsA
import Derived.Test.YtkfhpmleelmcfaaWk2
namespace Go.Proofs.Ytkfhpmleelmcfaa
open Go.RowKit
set_option linter.unusedVariables false
set_option maxRecDepth 100000

def maskC (no : Int) : Int := if (no == 768) = true then 824641984938 else if (no == 256 || no == 512) = true then 786722 else if (no == 1536) = true then 7345088 else if (no == 770) = true then 15775743 else if (no == 1538) = true then 45567 else if (no == 772) = true then 7918 else if (no == 771 || no == 836) = true then 546 else if (no == 1539 || no == 1605) = true then 1092 else if (no == 1543) = true then 2 else if (no == 774 || (no == 262 || no == 1542)) = true then 7 else if (no == 1664) = true then 17582052945254416380 else if (no == 833 || (no == 321 || no == 577)) = true then 18446744073709551612 else if (no == 773 || (no == 261 || no == 517)) = true then 18446744073709551613 else 18446744073709551615
theorem maskC_all : ∀ k, k < 38 → maskC (noF k) = mkF k := by decide +kernel
set_option maxHeartbeats 4000000 in
theorem mask_any (no : Int) (w : World) : Calls Try.prog 31 #[.int .i64 no] w fun e w' => e = .returned (.int .u64 (maskC no)) ∧ w = w' := by
  go_enter Try.func31, Try.ntmps31
  refine begin_fr [(0, .int .i64 no)] 53 ?_ (fun a hA => ?_)
  · exact FrA.add (FrA.nil (by rfl) (by rfl)) 0 _ (by rfl)
  refine wp_seq ?_
  refine wp_region_list ?_
  refine W_val hA rfl 2 rfl (by decide) _ _ (R_asg hA rfl rfl _) (fun a hA => ?_)
  refine W_nil ?_
  refine then_nrm ?_
  show Code.wp Try.prog _ _ _ _
  refine wp_seq ?_
  refine wp_region_list ?_
  refine W_val hA rfl 3 rfl (by decide) _ _ (R_asg hA rfl rfl _) (fun a hA => ?_)
  refine W_val hA rfl 4 rfl (by decide) _ _ (R_asg hA rfl rfl _) (fun a hA => ?_)
  refine W_nil ?_
  refine then_nrm ?_
  show Code.wp Try.prog _ _ _ _
  refine wp_seq ?_
  refine wp_seq ?_
  refine wp_region_list ?_
  refine W_val hA rfl 5 rfl (by decide) _ _ (R_mov hA rfl rfl _) (fun a hA => ?_)
  refine W_nil ?_
  refine then_nrm ?_
  show Code.wp Try.prog _ _ _ _
  refine wp_block ?_
  refine wp_seq ?_
  refine wp_block ?_
  refine wp_seq ?_
  refine wp_block ?_
  refine wp_seq ?_
  refine wp_block ?_
  refine wp_seq ?_
  refine wp_block ?_
  refine wp_seq ?_
  refine wp_block ?_
  refine wp_seq ?_
  refine wp_block ?_
  refine wp_seq ?_
  refine wp_block ?_
  refine wp_seq ?_
  refine wp_block ?_
  refine wp_seq ?_
  refine wp_block ?_
  refine wp_seq ?_
  refine wp_block ?_
  refine wp_seq ?_
  refine wp_block ?_
  refine wp_seq ?_
  refine wp_block ?_
  refine wp_seq ?_
  refine wp_block ?_
  refine wp_seq ?_
  refine wp_seq ?_
  refine W_test hA rfl (by decide) (by decide) rfl rfl (fun c1 a hA => ?_) (fun c1 a hA => ?_)
  · skip
    refine wp_exit ?_
    refine then_ext ?_
    refine then_ext ?_
    refine blk_eq ?_
    refine then_nrm ?_
    show Code.wp Try.prog _ _ _ _
    refine wp_region_list ?_
    refine W_val hA rfl 3 rfl (by decide) _ _ (R_asg hA rfl rfl _) (fun a hA => ?_)
    refine W_nil ?_
    refine blk_nrm ?_
    refine then_nrm ?_
    show Code.wp Try.prog _ _ _ _
    refine wp_seq ?_
    refine wp_seq ?_
    refine wp_region_list ?_
    refine W_val hA rfl 41 rfl (by decide) _ _ (R_mov hA rfl rfl _) (fun a hA => ?_)
    refine W_val hA rfl 42 rfl (by decide) _ _ (R_or hA rfl rfl rfl _) (fun a hA => ?_)
    refine W_val hA rfl 2 rfl (by decide) _ _ (R_asg hA rfl rfl _) (fun a hA => ?_)
    refine W_nil ?_
    refine then_nrm ?_
    show Code.wp Try.prog _ _ _ _
    refine wp_ret ?_
    refine then_ret ?_
    refine blk_ret ?_
    refine then_ret ?_
    refine blk_ret ?_
    refine then_ret ?_
    refine blk_ret ?_
    refine then_ret ?_
    refine blk_ret ?_
    refine then_ret ?_
    refine blk_ret ?_
    refine then_ret ?_
    refine blk_ret ?_
    refine then_ret ?_
    refine blk_ret ?_
    refine then_ret ?_
    refine blk_ret ?_
    refine then_ret ?_
    refine blk_ret ?_
    refine then_ret ?_
    refine blk_ret ?_
    refine then_ret ?_
    refine blk_ret ?_
    refine then_ret ?_
    refine blk_ret ?_
    refine then_ret ?_
    refine ret_tmp (j := 2) (by kernel_rfl) hA (by decide) rfl ?_
    refine ⟨congrArg (fun x : Int => Ending.returned (.int .u64 x)) ?_, rfl⟩
    unfold maskC
    simp only [c1, if_true, if_false, Bool.false_eq_true]
    all_goals (first | rfl | decide +kernel)
  refine wp_skip ?_
  refine then_nrm ?_
  show Code.wp Try.prog _ _ _ _
  refine wp_seq ?_
  refine W_tests hA (sets_more rfl (by decide) (by decide) rfl rfl (sets_one rfl (by decide) (by decide) rfl rfl)) (fun c2 a hA => ?_) (fun c2 a hA => ?_)
  · skip
    refine wp_exit ?_
    refine then_ext ?_
    refine then_ext ?_
    refine blk_ne (by decide) ?_
    refine then_ext ?_
    refine blk_eq ?_
    refine then_nrm ?_
    show Code.wp Try.prog _ _ _ _
    refine wp_seq ?_
    refine wp_seq ?_
    refine wp_region_list ?_
    refine W_val hA rfl 41 rfl (by decide) _ _ (R_mov hA rfl rfl _) (fun a hA => ?_)
    refine W_val hA rfl 42 rfl (by decide) _ _ (R_or hA rfl rfl rfl _) (fun a hA => ?_)
    refine W_val hA rfl 2 rfl (by decide) _ _ (R_asg hA rfl rfl _) (fun a hA => ?_)
    refine W_nil ?_
    refine then_nrm ?_
    show Code.wp Try.prog _ _ _ _
    refine wp_ret ?_
    refine then_ret ?_
    refine blk_ret ?_
    refine then_ret ?_
    refine blk_ret ?_
    refine then_ret ?_
    refine blk_ret ?_
    refine then_ret ?_
    refine blk_ret ?_
    refine then_ret ?_
    refine blk_ret ?_
    refine then_ret ?_
    refine blk_ret ?_
    refine then_ret ?_
    refine blk_ret ?_
    refine then_ret ?_
    refine blk_ret ?_
    refine then_ret ?_
    refine blk_ret ?_
    refine then_ret ?_
    refine blk_ret ?_
    refine then_ret ?_
    refine blk_ret ?_
    refine then_ret ?_
    refine blk_ret ?_
    refine then_ret ?_
    refine ret_tmp (j := 2) (by kernel_rfl) hA (by decide) rfl ?_
    refine ⟨congrArg (fun x : Int => Ending.returned (.int .u64 x)) ?_, rfl⟩
    unfold maskC
    simp only [c1, c2, if_true, if_false, Bool.false_eq_true]
    all_goals (first | rfl | decide +kernel)
  refine wp_skip ?_
  refine then_nrm ?_
  show Code.wp Try.prog _ _ _ _
  refine wp_seq ?_
  refine W_test hA rfl (by decide) (by decide) rfl rfl (fun c3 a hA => ?_) (fun c3 a hA => ?_)
  · skip
    refine wp_exit ?_
    refine then_ext ?_
    refine then_ext ?_
    refine blk_ne (by decide) ?_
    refine then_ext ?_
    refine blk_ne (by decide) ?_
    refine then_ext ?_
    refine blk_eq ?_
    refine then_nrm ?_
    show Code.wp Try.prog _ _ _ _
    refine wp_seq ?_
    refine wp_seq ?_
    refine wp_region_list ?_
    refine W_val hA rfl 2 rfl (by decide) _ _ (R_asg hA rfl rfl _) (fun a hA => ?_)
    refine W_nil ?_
    refine then_nrm ?_
    show Code.wp Try.prog _ _ _ _
    refine wp_ret ?_
    refine then_ret ?_
    refine blk_ret ?_
    refine then_ret ?_
    refine blk_ret ?_
    refine then_ret ?_
    refine blk_ret ?_
    refine then_ret ?_
    refine blk_ret ?_
    refine then_ret ?_
    refine blk_ret ?_
    refine then_ret ?_
    refine blk_ret ?_
    refine then_ret ?_
    refine blk_ret ?_
    refine then_ret ?_
    refine blk_ret ?_
    refine then_ret ?_
    refine blk_ret ?_
    refine then_ret ?_
    refine blk_ret ?_
    refine then_ret ?_
    refine blk_ret ?_
    refine then_ret ?_
    refine ret_tmp (j := 2) (by kernel_rfl) hA (by decide) rfl ?_
    refine ⟨congrArg (fun x : Int => Ending.returned (.int .u64 x)) ?_, rfl⟩
    unfold maskC
    simp only [c1, c2, c3, if_true, if_false, Bool.false_eq_true]
    all_goals (first | rfl | decide +kernel)
  refine wp_skip ?_
  refine then_nrm ?_
  show Code.wp Try.prog _ _ _ _
  refine wp_seq ?_
  refine W_test hA rfl (by decide) (by decide) rfl rfl (fun c4 a hA => ?_) (fun c4 a hA => ?_)
  · skip
    refine wp_exit ?_
    refine then_ext ?_
    refine then_ext ?_
    refine blk_ne (by decide) ?_
    refine then_ext ?_
    refine blk_ne (by decide) ?_
    refine then_ext ?_
    refine blk_ne (by decide) ?_
    refine then_ext ?_
    refine blk_eq ?_
    refine then_nrm ?_
    show Code.wp Try.prog _ _ _ _
    refine wp_region_list ?_
    refine W_val hA rfl 3 rfl (by decide) _ _ (R_asg hA rfl rfl _) (fun a hA => ?_)
    refine W_nil ?_
    refine blk_nrm ?_
    refine then_nrm ?_
    show Code.wp Try.prog _ _ _ _
    refine wp_seq ?_
    refine wp_seq ?_
    refine wp_region_list ?_
    refine W_val hA rfl 43 rfl (by decide) _ _ (R_mov hA rfl rfl _) (fun a hA => ?_)
    refine W_val hA rfl 44 rfl (by decide) _ _ (R_or hA rfl rfl rfl _) (fun a hA => ?_)
    refine W_val hA rfl 2 rfl (by decide) _ _ (R_asg hA rfl rfl _) (fun a hA => ?_)
    refine W_nil ?_
    refine then_nrm ?_
    show Code.wp Try.prog _ _ _ _
    refine wp_ret ?_
    refine then_ret ?_
    refine blk_ret ?_
    refine then_ret ?_
    refine blk_ret ?_
    refine then_ret ?_
    refine blk_ret ?_
    refine then_ret ?_
    refine blk_ret ?_
    refine then_ret ?_
    refine blk_ret ?_
    refine then_ret ?_
    refine blk_ret ?_
    refine then_ret ?_
    refine blk_ret ?_
    refine then_ret ?_
    refine blk_ret ?_
    refine then_ret ?_
    refine blk_ret ?_
    refine then_ret ?_
    refine ret_tmp (j := 2) (by kernel_rfl) hA (by decide) rfl ?_
    refine ⟨congrArg (fun x : Int => Ending.returned (.int .u64 x)) ?_, rfl⟩
    unfold maskC
    simp only [c1, c2, c3, c4, if_true, if_false, Bool.false_eq_true]
    all_goals (first | rfl | decide +kernel)
  refine wp_skip ?_
  refine then_nrm ?_
  show Code.wp Try.prog _ _ _ _
  refine wp_seq ?_
  refine W_test hA rfl (by decide) (by decide) rfl rfl (fun c5 a hA => ?_) (fun c5 a hA => ?_)
  · skip
    refine wp_exit ?_
    refine then_ext ?_
    refine then_ext ?_
    refine blk_ne (by decide) ?_
    refine then_ext ?_
    refine blk_ne (by decide) ?_
    refine then_ext ?_
    refine blk_ne (by decide) ?_
    refine then_ext ?_
    refine blk_ne (by decide) ?_
    refine then_ext ?_
    refine blk_eq ?_
    refine then_nrm ?_
    show Code.wp Try.prog _ _ _ _
    refine wp_seq ?_
    refine wp_seq ?_
    refine wp_region_list ?_
    refine W_val hA rfl 43 rfl (by decide) _ _ (R_mov hA rfl rfl _) (fun a hA => ?_)
    refine W_val hA rfl 44 rfl (by decide) _ _ (R_or hA rfl rfl rfl _) (fun a hA => ?_)
    refine W_val hA rfl 2 rfl (by decide) _ _ (R_asg hA rfl rfl _) (fun a hA => ?_)
    refine W_nil ?_
    refine then_nrm ?_
    show Code.wp Try.prog _ _ _ _
    refine wp_ret ?_
    refine then_ret ?_
    refine blk_ret ?_
    refine then_ret ?_
    refine blk_ret ?_
    refine then_ret ?_
    refine blk_ret ?_
    refine then_ret ?_
    refine blk_ret ?_
    refine then_ret ?_
    refine blk_ret ?_
    refine then_ret ?_
    refine blk_ret ?_
    refine then_ret ?_
    refine blk_ret ?_
    refine then_ret ?_
    refine blk_ret ?_
    refine then_ret ?_
    refine blk_ret ?_
    refine then_ret ?_
    refine ret_tmp (j := 2) (by kernel_rfl) hA (by decide) rfl ?_
    refine ⟨congrArg (fun x : Int => Ending.returned (.int .u64 x)) ?_, rfl⟩
    unfold maskC
    simp only [c1, c2, c3, c4, c5, if_true, if_false, Bool.false_eq_true]
    all_goals (first | rfl | decide +kernel)
  refine wp_skip ?_
  refine then_nrm ?_
  show Code.wp Try.prog _ _ _ _
  refine wp_seq ?_
  refine W_test hA rfl (by decide) (by decide) rfl rfl (fun c6 a hA => ?_) (fun c6 a hA => ?_)
  · skip
    refine wp_exit ?_
    refine then_ext ?_
    refine then_ext ?_
    refine blk_ne (by decide) ?_
    refine then_ext ?_
    refine blk_ne (by decide) ?_
    refine then_ext ?_
    refine blk_ne (by decide) ?_
    refine then_ext ?_
    refine blk_ne (by decide) ?_
    refine then_ext ?_
    refine blk_ne (by decide) ?_
    refine then_ext ?_
    refine blk_eq ?_
    refine then_nrm ?_
    show Code.wp Try.prog _ _ _ _
    refine wp_region_list ?_
    refine W_val hA rfl 3 rfl (by decide) _ _ (R_asg hA rfl rfl _) (fun a hA => ?_)
    refine W_nil ?_
    refine blk_nrm ?_
    refine then_nrm ?_
    show Code.wp Try.prog _ _ _ _
    refine wp_seq ?_
    refine wp_seq ?_
    refine wp_region_list ?_
    refine W_val hA rfl 45 rfl (by decide) _ _ (R_mov hA rfl rfl _) (fun a hA => ?_)
    refine W_val hA rfl 46 rfl (by decide) _ _ (R_or hA rfl rfl rfl _) (fun a hA => ?_)
    refine W_val hA rfl 2 rfl (by decide) _ _ (R_asg hA rfl rfl _) (fun a hA => ?_)
    refine W_nil ?_
    refine then_nrm ?_
    show Code.wp Try.prog _ _ _ _
    refine wp_ret ?_
    refine then_ret ?_
    refine blk_ret ?_
    refine then_ret ?_
    refine blk_ret ?_
    refine then_ret ?_
    refine blk_ret ?_
    refine then_ret ?_
    refine blk_ret ?_
    refine then_ret ?_
    refine blk_ret ?_
    refine then_ret ?_
    refine blk_ret ?_
    refine then_ret ?_
    refine blk_ret ?_
    refine then_ret ?_
    refine ret_tmp (j := 2) (by kernel_rfl) hA (by decide) rfl ?_
    refine ⟨congrArg (fun x : Int => Ending.returned (.int .u64 x)) ?_, rfl⟩
    unfold maskC
    simp only [c1, c2, c3, c4, c5, c6, if_true, if_false, Bool.false_eq_true]
    all_goals (first | rfl | decide +kernel)
  refine wp_skip ?_
  refine then_nrm ?_
  show Code.wp Try.prog _ _ _ _
  refine wp_seq ?_
  refine W_tests hA (sets_more rfl (by decide) (by decide) rfl rfl (sets_one rfl (by decide) (by decide) rfl rfl)) (fun c7 a hA => ?_) (fun c7 a hA => ?_)
  · skip
    refine wp_exit ?_
    refine then_ext ?_
    refine then_ext ?_
    refine blk_ne (by decide) ?_
    refine then_ext ?_
    refine blk_ne (by decide) ?_
    refine then_ext ?_
    refine blk_ne (by decide) ?_
    refine then_ext ?_
    refine blk_ne (by decide) ?_
    refine then_ext ?_
    refine blk_ne (by decide) ?_
    refine then_ext ?_
    refine blk_ne (by decide) ?_
    refine then_ext ?_
    refine blk_eq ?_
    refine then_nrm ?_
    show Code.wp Try.prog _ _ _ _
    refine wp_seq ?_
    refine wp_seq ?_
    refine wp_region_list ?_
    refine W_val hA rfl 45 rfl (by decide) _ _ (R_mov hA rfl rfl _) (fun a hA => ?_)
    refine W_val hA rfl 46 rfl (by decide) _ _ (R_or hA rfl rfl rfl _) (fun a hA => ?_)
    refine W_val hA rfl 2 rfl (by decide) _ _ (R_asg hA rfl rfl _) (fun a hA => ?_)
    refine W_nil ?_
    refine then_nrm ?_
    show Code.wp Try.prog _ _ _ _
    refine wp_ret ?_
    refine then_ret ?_
    refine blk_ret ?_
    refine then_ret ?_
    refine blk_ret ?_
    refine then_ret ?_
    refine blk_ret ?_
    refine then_ret ?_
    refine blk_ret ?_
    refine then_ret ?_
    refine blk_ret ?_
    refine then_ret ?_
    refine blk_ret ?_
    refine then_ret ?_
    refine blk_ret ?_
    refine then_ret ?_
    refine ret_tmp (j := 2) (by kernel_rfl) hA (by decide) rfl ?_
    refine ⟨congrArg (fun x : Int => Ending.returned (.int .u64 x)) ?_, rfl⟩
    unfold maskC
    simp only [c1, c2, c3, c4, c5, c6, c7, if_true, if_false, Bool.false_eq_true]
    all_goals (first | rfl | decide +kernel)
  refine wp_skip ?_
  refine then_nrm ?_
  show Code.wp Try.prog _ _ _ _
  refine wp_seq ?_
  refine W_tests hA (sets_more rfl (by decide) (by decide) rfl rfl (sets_one rfl (by decide) (by decide) rfl rfl)) (fun c8 a hA => ?_) (fun c8 a hA => ?_)
  · skip
    refine wp_exit ?_
    refine then_ext ?_
    refine then_ext ?_
    refine blk_ne (by decide) ?_
    refine then_ext ?_
    refine blk_ne (by decide) ?_
    refine then_ext ?_
    refine blk_ne (by decide) ?_
    refine then_ext ?_
    refine blk_ne (by decide) ?_
    refine then_ext ?_
    refine blk_ne (by decide) ?_
    refine then_ext ?_
    refine blk_ne (by decide) ?_
    refine then_ext ?_
    refine blk_ne (by decide) ?_
    refine then_ext ?_
    refine blk_eq ?_
    refine then_nrm ?_
    show Code.wp Try.prog _ _ _ _
    refine wp_seq ?_
    refine wp_seq ?_
    refine wp_region_list ?_
    refine W_val hA rfl 2 rfl (by decide) _ _ (R_asg hA rfl rfl _) (fun a hA => ?_)
    refine W_nil ?_
    refine then_nrm ?_
    show Code.wp Try.prog _ _ _ _
    refine wp_ret ?_
    refine then_ret ?_
    refine blk_ret ?_
    refine then_ret ?_
    refine blk_ret ?_
    refine then_ret ?_
    refine blk_ret ?_
    refine then_ret ?_
    refine blk_ret ?_
    refine then_ret ?_
    refine blk_ret ?_
    refine then_ret ?_
    refine blk_ret ?_
    refine then_ret ?_
    refine ret_tmp (j := 2) (by kernel_rfl) hA (by decide) rfl ?_
    refine ⟨congrArg (fun x : Int => Ending.returned (.int .u64 x)) ?_, rfl⟩
    unfold maskC
    simp only [c1, c2, c3, c4, c5, c6, c7, c8, if_true, if_false, Bool.false_eq_true]
    all_goals (first | rfl | decide +kernel)
  refine wp_skip ?_
  refine then_nrm ?_
  show Code.wp Try.prog _ _ _ _
  refine wp_seq ?_
  refine W_test hA rfl (by decide) (by decide) rfl rfl (fun c9 a hA => ?_) (fun c9 a hA => ?_)
  · skip
    refine wp_exit ?_
    refine then_ext ?_
    refine then_ext ?_
    refine blk_ne (by decide) ?_
    refine then_ext ?_
    refine blk_ne (by decide) ?_
    refine then_ext ?_
    refine blk_ne (by decide) ?_
    refine then_ext ?_
    refine blk_ne (by decide) ?_
    refine then_ext ?_
    refine blk_ne (by decide) ?_
    refine then_ext ?_
    refine blk_ne (by decide) ?_
    refine then_ext ?_
    refine blk_ne (by decide) ?_
    refine then_ext ?_
    refine blk_ne (by decide) ?_
    refine then_ext ?_
    refine blk_eq ?_
    refine then_nrm ?_
    show Code.wp Try.prog _ _ _ _
    refine wp_seq ?_
    refine wp_seq ?_
    refine wp_region_list ?_
    refine W_val hA rfl 2 rfl (by decide) _ _ (R_asg hA rfl rfl _) (fun a hA => ?_)
    refine W_nil ?_
    refine then_nrm ?_
    show Code.wp Try.prog _ _ _ _
    refine wp_ret ?_
    refine then_ret ?_
    refine blk_ret ?_
    refine then_ret ?_
    refine blk_ret ?_
    refine then_ret ?_
    refine blk_ret ?_
    refine then_ret ?_
    refine blk_ret ?_
    refine then_ret ?_
    refine blk_ret ?_
    refine then_ret ?_
    refine ret_tmp (j := 2) (by kernel_rfl) hA (by decide) rfl ?_
    refine ⟨congrArg (fun x : Int => Ending.returned (.int .u64 x)) ?_, rfl⟩
    unfold maskC
    simp only [c1, c2, c3, c4, c5, c6, c7, c8, c9, if_true, if_false, Bool.false_eq_true]
    all_goals (first | rfl | decide +kernel)
  refine wp_skip ?_
  refine then_nrm ?_
  show Code.wp Try.prog _ _ _ _
  refine wp_seq ?_
  refine W_tests hA (sets_more rfl (by decide) (by decide) rfl rfl (sets_more rfl (by decide) (by decide) rfl rfl (sets_one rfl (by decide) (by decide) rfl rfl))) (fun c10 a hA => ?_) (fun c10 a hA => ?_)
  · skip
    refine wp_exit ?_
    refine then_ext ?_
    refine then_ext ?_
    refine blk_ne (by decide) ?_
    refine then_ext ?_
    refine blk_ne (by decide) ?_
    refine then_ext ?_
    refine blk_ne (by decide) ?_
    refine then_ext ?_
    refine blk_ne (by decide) ?_
    refine then_ext ?_
    refine blk_ne (by decide) ?_
    refine then_ext ?_
    refine blk_ne (by decide) ?_
    refine then_ext ?_
    refine blk_ne (by decide) ?_
    refine then_ext ?_
    refine blk_ne (by decide) ?_
    refine then_ext ?_
    refine blk_ne (by decide) ?_
    refine then_ext ?_
    refine blk_eq ?_
    refine then_nrm ?_
    show Code.wp Try.prog _ _ _ _
    refine wp_seq ?_
    refine wp_seq ?_
    refine wp_region_list ?_
    refine W_val hA rfl 2 rfl (by decide) _ _ (R_asg hA rfl rfl _) (fun a hA => ?_)
    refine W_nil ?_
    refine then_nrm ?_
    show Code.wp Try.prog _ _ _ _
    refine wp_ret ?_
    refine then_ret ?_
    refine blk_ret ?_
    refine then_ret ?_
    refine blk_ret ?_
    refine then_ret ?_
    refine blk_ret ?_
    refine then_ret ?_
    refine blk_ret ?_
    refine then_ret ?_
    refine ret_tmp (j := 2) (by kernel_rfl) hA (by decide) rfl ?_
    refine ⟨congrArg (fun x : Int => Ending.returned (.int .u64 x)) ?_, rfl⟩
    unfold maskC
    simp only [c1, c2, c3, c4, c5, c6, c7, c8, c9, c10, if_true, if_false, Bool.false_eq_true]
    all_goals (first | rfl | decide +kernel)
  refine wp_skip ?_
  refine then_nrm ?_
  show Code.wp Try.prog _ _ _ _
  refine wp_seq ?_
  refine W_test hA rfl (by decide) (by decide) rfl rfl (fun c11 a hA => ?_) (fun c11 a hA => ?_)
  · skip
    refine wp_exit ?_
    refine then_ext ?_
    refine then_ext ?_
    refine blk_ne (by decide) ?_
    refine then_ext ?_
    refine blk_ne (by decide) ?_
    refine then_ext ?_
    refine blk_ne (by decide) ?_
    refine then_ext ?_
    refine blk_ne (by decide) ?_
    refine then_ext ?_
    refine blk_ne (by decide) ?_
    refine then_ext ?_
    refine blk_ne (by decide) ?_
    refine then_ext ?_
    refine blk_ne (by decide) ?_
    refine then_ext ?_
    refine blk_ne (by decide) ?_
    refine then_ext ?_
    refine blk_ne (by decide) ?_
    refine then_ext ?_
    refine blk_ne (by decide) ?_
    refine then_ext ?_
    refine blk_eq ?_
    refine then_nrm ?_
    show Code.wp Try.prog _ _ _ _
    refine wp_region_list ?_
    refine W_val hA rfl 4 rfl (by decide) _ _ (R_asg hA rfl rfl _) (fun a hA => ?_)
    refine W_nil ?_
    refine blk_nrm ?_
    refine then_nrm ?_
    show Code.wp Try.prog _ _ _ _
    refine wp_region_list ?_
    refine W_val hA rfl 47 rfl (by decide) _ _ (R_mov hA rfl rfl _) (fun a hA => ?_)
    refine W_val hA rfl 48 rfl (by decide) _ _ (R_or hA rfl rfl rfl _) (fun a hA => ?_)
    refine W_val hA rfl 4 rfl (by decide) _ _ (R_asg hA rfl rfl _) (fun a hA => ?_)
    refine W_nil ?_
    refine blk_nrm ?_
    refine then_nrm ?_
    show Code.wp Try.prog _ _ _ _
    refine wp_seq ?_
    refine wp_region_list ?_
    refine W_val hA rfl 49 rfl (by decide) _ _ (R_mov hA rfl rfl _) (fun a hA => ?_)
    refine W_val hA rfl 50 rfl (by decide) _ _ (R_or hA rfl rfl rfl _) (fun a hA => ?_)
    refine W_val hA rfl 4 rfl (by decide) _ _ (R_asg hA rfl rfl _) (fun a hA => ?_)
    refine W_nil ?_
    refine then_nrm ?_
    show Code.wp Try.prog _ _ _ _
    refine wp_exit ?_
    refine blk_eq ?_
    refine then_nrm ?_
    show Code.wp Try.prog _ _ _ _
    refine wp_seq ?_
    refine wp_region_list ?_
    refine W_val hA rfl 51 rfl (by decide) _ _ (R_mov hA rfl rfl _) (fun a hA => ?_)
    refine W_val hA rfl 52 rfl (by decide) _ _ (R_xorU hA rfl rfl rfl _) (fun a hA => ?_)
    refine W_val hA rfl 2 rfl (by decide) _ _ (R_asg hA rfl rfl _) (fun a hA => ?_)
    refine W_nil ?_
    refine then_nrm ?_
    show Code.wp Try.prog _ _ _ _
    refine wp_ret ?_
    refine ret_tmp (j := 2) (by kernel_rfl) hA (by decide) rfl ?_
    refine ⟨congrArg (fun x : Int => Ending.returned (.int .u64 x)) ?_, rfl⟩
    unfold maskC
    simp only [c1, c2, c3, c4, c5, c6, c7, c8, c9, c10, c11, if_true, if_false, Bool.false_eq_true]
    all_goals (first | rfl | decide +kernel)
  refine wp_skip ?_
  refine then_nrm ?_
  show Code.wp Try.prog _ _ _ _
  refine wp_seq ?_
  refine W_tests hA (sets_more rfl (by decide) (by decide) rfl rfl (sets_more rfl (by decide) (by decide) rfl rfl (sets_one rfl (by decide) (by decide) rfl rfl))) (fun c12 a hA => ?_) (fun c12 a hA => ?_)
  · skip
    refine wp_exit ?_
    refine then_ext ?_
    refine then_ext ?_
    refine blk_ne (by decide) ?_
    refine then_ext ?_
    refine blk_ne (by decide) ?_
    refine then_ext ?_
    refine blk_ne (by decide) ?_
    refine then_ext ?_
    refine blk_ne (by decide) ?_
    refine then_ext ?_
    refine blk_ne (by decide) ?_
    refine then_ext ?_
    refine blk_ne (by decide) ?_
    refine then_ext ?_
    refine blk_ne (by decide) ?_
    refine then_ext ?_
    refine blk_ne (by decide) ?_
    refine then_ext ?_
    refine blk_ne (by decide) ?_
    refine then_ext ?_
    refine blk_ne (by decide) ?_
    refine then_ext ?_
    refine blk_ne (by decide) ?_
    refine then_ext ?_
    refine blk_eq ?_
    refine then_nrm ?_
    show Code.wp Try.prog _ _ _ _
    refine wp_region_list ?_
    refine W_val hA rfl 47 rfl (by decide) _ _ (R_mov hA rfl rfl _) (fun a hA => ?_)
    refine W_val hA rfl 48 rfl (by decide) _ _ (R_or hA rfl rfl rfl _) (fun a hA => ?_)
    refine W_val hA rfl 4 rfl (by decide) _ _ (R_asg hA rfl rfl _) (fun a hA => ?_)
    refine W_nil ?_
    refine blk_nrm ?_
    refine then_nrm ?_
    show Code.wp Try.prog _ _ _ _
    refine wp_seq ?_
    refine wp_region_list ?_
    refine W_val hA rfl 49 rfl (by decide) _ _ (R_mov hA rfl rfl _) (fun a hA => ?_)
    refine W_val hA rfl 50 rfl (by decide) _ _ (R_or hA rfl rfl rfl _) (fun a hA => ?_)
    refine W_val hA rfl 4 rfl (by decide) _ _ (R_asg hA rfl rfl _) (fun a hA => ?_)
    refine W_nil ?_
    refine then_nrm ?_
    show Code.wp Try.prog _ _ _ _
    refine wp_exit ?_
    refine blk_eq ?_
    refine then_nrm ?_
    show Code.wp Try.prog _ _ _ _
    refine wp_seq ?_
    refine wp_region_list ?_
    refine W_val hA rfl 51 rfl (by decide) _ _ (R_mov hA rfl rfl _) (fun a hA => ?_)
    refine W_val hA rfl 52 rfl (by decide) _ _ (R_xorU hA rfl rfl rfl _) (fun a hA => ?_)
    refine W_val hA rfl 2 rfl (by decide) _ _ (R_asg hA rfl rfl _) (fun a hA => ?_)
    refine W_nil ?_
    refine then_nrm ?_
    show Code.wp Try.prog _ _ _ _
    refine wp_ret ?_
    refine ret_tmp (j := 2) (by kernel_rfl) hA (by decide) rfl ?_
    refine ⟨congrArg (fun x : Int => Ending.returned (.int .u64 x)) ?_, rfl⟩
    unfold maskC
    simp only [c1, c2, c3, c4, c5, c6, c7, c8, c9, c10, c11, c12, if_true, if_false, Bool.false_eq_true]
    all_goals (first | rfl | decide +kernel)
  refine wp_skip ?_
  refine then_nrm ?_
  show Code.wp Try.prog _ _ _ _
  refine W_tests hA (sets_more rfl (by decide) (by decide) rfl rfl (sets_more rfl (by decide) (by decide) rfl rfl (sets_one rfl (by decide) (by decide) rfl rfl))) (fun c13 a hA => ?_) (fun c13 a hA => ?_)
  · skip
    refine wp_exit ?_
    refine then_ext ?_
    refine blk_ne (by decide) ?_
    refine then_ext ?_
    refine blk_ne (by decide) ?_
    refine then_ext ?_
    refine blk_ne (by decide) ?_
    refine then_ext ?_
    refine blk_ne (by decide) ?_
    refine then_ext ?_
    refine blk_ne (by decide) ?_
    refine then_ext ?_
    refine blk_ne (by decide) ?_
    refine then_ext ?_
    refine blk_ne (by decide) ?_
    refine then_ext ?_
    refine blk_ne (by decide) ?_
    refine then_ext ?_
    refine blk_ne (by decide) ?_
    refine then_ext ?_
    refine blk_ne (by decide) ?_
    refine then_ext ?_
    refine blk_ne (by decide) ?_
    refine then_ext ?_
    refine blk_ne (by decide) ?_
    refine then_ext ?_
    refine blk_eq ?_
    refine then_nrm ?_
    show Code.wp Try.prog _ _ _ _
    refine wp_seq ?_
    refine wp_region_list ?_
    refine W_val hA rfl 49 rfl (by decide) _ _ (R_mov hA rfl rfl _) (fun a hA => ?_)
    refine W_val hA rfl 50 rfl (by decide) _ _ (R_or hA rfl rfl rfl _) (fun a hA => ?_)
    refine W_val hA rfl 4 rfl (by decide) _ _ (R_asg hA rfl rfl _) (fun a hA => ?_)
    refine W_nil ?_
    refine then_nrm ?_
    show Code.wp Try.prog _ _ _ _
    refine wp_exit ?_
    refine blk_eq ?_
    refine then_nrm ?_
    show Code.wp Try.prog _ _ _ _
    refine wp_seq ?_
    refine wp_region_list ?_
    refine W_val hA rfl 51 rfl (by decide) _ _ (R_mov hA rfl rfl _) (fun a hA => ?_)
    refine W_val hA rfl 52 rfl (by decide) _ _ (R_xorU hA rfl rfl rfl _) (fun a hA => ?_)
    refine W_val hA rfl 2 rfl (by decide) _ _ (R_asg hA rfl rfl _) (fun a hA => ?_)
    refine W_nil ?_
    refine then_nrm ?_
    show Code.wp Try.prog _ _ _ _
    refine wp_ret ?_
    refine ret_tmp (j := 2) (by kernel_rfl) hA (by decide) rfl ?_
    refine ⟨congrArg (fun x : Int => Ending.returned (.int .u64 x)) ?_, rfl⟩
    unfold maskC
    simp only [c1, c2, c3, c4, c5, c6, c7, c8, c9, c10, c11, c12, c13, if_true, if_false, Bool.false_eq_true]
    all_goals (first | rfl | decide +kernel)
  refine wp_skip ?_
  refine then_nrm ?_
  show Code.wp Try.prog _ _ _ _
  refine wp_exit ?_
  refine blk_ne (by decide) ?_
  refine then_ext ?_
  refine blk_ne (by decide) ?_
  refine then_ext ?_
  refine blk_ne (by decide) ?_
  refine then_ext ?_
  refine blk_ne (by decide) ?_
  refine then_ext ?_
  refine blk_ne (by decide) ?_
  refine then_ext ?_
  refine blk_ne (by decide) ?_
  refine then_ext ?_
  refine blk_ne (by decide) ?_
  refine then_ext ?_
  refine blk_ne (by decide) ?_
  refine then_ext ?_
  refine blk_ne (by decide) ?_
  refine then_ext ?_
  refine blk_ne (by decide) ?_
  refine then_ext ?_
  refine blk_ne (by decide) ?_
  refine then_ext ?_
  refine blk_ne (by decide) ?_
  refine then_ext ?_
  refine blk_ne (by decide) ?_
  refine then_ext ?_
  refine blk_eq ?_
  refine then_nrm ?_
  show Code.wp Try.prog _ _ _ _
  refine wp_seq ?_
  refine wp_region_list ?_
  refine W_val hA rfl 51 rfl (by decide) _ _ (R_mov hA rfl rfl _) (fun a hA => ?_)
  refine W_val hA rfl 52 rfl (by decide) _ _ (R_xorU hA rfl rfl rfl _) (fun a hA => ?_)
  refine W_val hA rfl 2 rfl (by decide) _ _ (R_asg hA rfl rfl _) (fun a hA => ?_)
  refine W_nil ?_
  refine then_nrm ?_
  show Code.wp Try.prog _ _ _ _
  refine wp_ret ?_
  refine ret_tmp (j := 2) (by kernel_rfl) hA (by decide) rfl ?_
  refine ⟨congrArg (fun x : Int => Ending.returned (.int .u64 x)) ?_, rfl⟩
  unfold maskC
  simp only [c1, c2, c3, c4, c5, c6, c7, c8, c9, c10, c11, c12, c13, if_true, if_false, Bool.false_eq_true]
  all_goals (first | rfl | decide +kernel)
def setC (no : Int) : Int := if (no == 768) = true then 42949672960 else if (no == 1536 || (no == 256 || no == 512)) = true then 8589934592 else if (no == 771) = true then 5188 else 0
theorem setC_all : ∀ k, k < 38 → setC (noF k) = seF k := by decide +kernel
set_option maxHeartbeats 4000000 in
theorem set_any (no : Int) (w : World) : Calls Try.prog 32 #[.int .i64 no] w fun e w' => e = .returned (.int .u64 (setC no)) ∧ w = w' := by
  go_enter Try.func32, Try.ntmps32
  refine begin_fr [(0, .int .i64 no)] 15 ?_ (fun a hA => ?_)
  · exact FrA.add (FrA.nil (by rfl) (by rfl)) 0 _ (by rfl)
  refine wp_seq ?_
  refine wp_region_list ?_
  refine W_val hA rfl 2 rfl (by decide) _ _ (R_asg hA rfl rfl _) (fun a hA => ?_)
  refine W_nil ?_
  refine then_nrm ?_
  show Code.wp Try.prog _ _ _ _
  refine wp_seq ?_
  refine wp_region_list ?_
  refine W_val hA rfl 3 rfl (by decide) _ _ (R_asg hA rfl rfl _) (fun a hA => ?_)
  refine W_nil ?_
  refine then_nrm ?_
  show Code.wp Try.prog _ _ _ _
  refine wp_seq ?_
  refine wp_seq ?_
  refine wp_region_list ?_
  refine W_val hA rfl 4 rfl (by decide) _ _ (R_mov hA rfl rfl _) (fun a hA => ?_)
  refine W_nil ?_
  refine then_nrm ?_
  show Code.wp Try.prog _ _ _ _
  refine wp_block ?_
  refine wp_seq ?_
  refine wp_block ?_
  refine wp_seq ?_
  refine wp_block ?_
  refine wp_seq ?_
  refine wp_block ?_
  refine wp_seq ?_
  refine wp_seq ?_
  refine W_test hA rfl (by decide) (by decide) rfl rfl (fun c1 a hA => ?_) (fun c1 a hA => ?_)
  · skip
    refine wp_exit ?_
    refine then_ext ?_
    refine then_ext ?_
    refine blk_eq ?_
    refine then_nrm ?_
    show Code.wp Try.prog _ _ _ _
    refine wp_region_list ?_
    refine W_val hA rfl 3 rfl (by decide) _ _ (R_asg hA rfl rfl _) (fun a hA => ?_)
    refine W_nil ?_
    refine blk_nrm ?_
    refine then_nrm ?_
    show Code.wp Try.prog _ _ _ _
    refine wp_seq ?_
    refine wp_seq ?_
    refine wp_region_list ?_
    refine W_val hA rfl 13 rfl (by decide) _ _ (R_mov hA rfl rfl _) (fun a hA => ?_)
    refine W_val hA rfl 14 rfl (by decide) _ _ (R_or hA rfl rfl rfl _) (fun a hA => ?_)
    refine W_val hA rfl 2 rfl (by decide) _ _ (R_asg hA rfl rfl _) (fun a hA => ?_)
    refine W_nil ?_
    refine then_nrm ?_
    show Code.wp Try.prog _ _ _ _
    refine wp_ret ?_
    refine then_ret ?_
    refine blk_ret ?_
    refine then_ret ?_
    refine blk_ret ?_
    refine then_ret ?_
    refine ret_tmp (j := 2) (by kernel_rfl) hA (by decide) rfl ?_
    refine ⟨congrArg (fun x : Int => Ending.returned (.int .u64 x)) ?_, rfl⟩
    unfold setC
    simp only [c1, if_true, if_false, Bool.false_eq_true]
    all_goals (first | rfl | decide +kernel)
  refine wp_skip ?_
  refine then_nrm ?_
  show Code.wp Try.prog _ _ _ _
  refine wp_seq ?_
  refine W_tests hA (sets_more rfl (by decide) (by decide) rfl rfl (sets_more rfl (by decide) (by decide) rfl rfl (sets_one rfl (by decide) (by decide) rfl rfl))) (fun c2 a hA => ?_) (fun c2 a hA => ?_)
  · skip
    refine wp_exit ?_
    refine then_ext ?_
    refine then_ext ?_
    refine blk_ne (by decide) ?_
    refine then_ext ?_
    refine blk_eq ?_
    refine then_nrm ?_
    show Code.wp Try.prog _ _ _ _
    refine wp_seq ?_
    refine wp_seq ?_
    refine wp_region_list ?_
    refine W_val hA rfl 13 rfl (by decide) _ _ (R_mov hA rfl rfl _) (fun a hA => ?_)
    refine W_val hA rfl 14 rfl (by decide) _ _ (R_or hA rfl rfl rfl _) (fun a hA => ?_)
    refine W_val hA rfl 2 rfl (by decide) _ _ (R_asg hA rfl rfl _) (fun a hA => ?_)
    refine W_nil ?_
    refine then_nrm ?_
    show Code.wp Try.prog _ _ _ _
    refine wp_ret ?_
    refine then_ret ?_
    refine blk_ret ?_
    refine then_ret ?_
    refine blk_ret ?_
    refine then_ret ?_
    refine ret_tmp (j := 2) (by kernel_rfl) hA (by decide) rfl ?_
    refine ⟨congrArg (fun x : Int => Ending.returned (.int .u64 x)) ?_, rfl⟩
    unfold setC
    simp only [c1, c2, if_true, if_false, Bool.false_eq_true]
    all_goals (first | rfl | decide +kernel)
  refine wp_skip ?_
  refine then_nrm ?_
  show Code.wp Try.prog _ _ _ _
  refine W_test hA rfl (by decide) (by decide) rfl rfl (fun c3 a hA => ?_) (fun c3 a hA => ?_)
  · skip
    refine wp_exit ?_
    refine then_ext ?_
    refine blk_ne (by decide) ?_
    refine then_ext ?_
    refine blk_ne (by decide) ?_
    refine then_ext ?_
    refine blk_eq ?_
    refine then_nrm ?_
    show Code.wp Try.prog _ _ _ _
    refine wp_seq ?_
    refine wp_seq ?_
    refine wp_region_list ?_
    refine W_val hA rfl 2 rfl (by decide) _ _ (R_asg hA rfl rfl _) (fun a hA => ?_)
    refine W_nil ?_
    refine then_nrm ?_
    show Code.wp Try.prog _ _ _ _
    refine wp_ret ?_
    refine then_ret ?_
    refine blk_ret ?_
    refine then_ret ?_
    refine ret_tmp (j := 2) (by kernel_rfl) hA (by decide) rfl ?_
    refine ⟨congrArg (fun x : Int => Ending.returned (.int .u64 x)) ?_, rfl⟩
    unfold setC
    simp only [c1, c2, c3, if_true, if_false, Bool.false_eq_true]
    all_goals (first | rfl | decide +kernel)
  refine wp_skip ?_
  refine then_nrm ?_
  show Code.wp Try.prog _ _ _ _
  refine wp_exit ?_
  refine blk_ne (by decide) ?_
  refine then_ext ?_
  refine blk_ne (by decide) ?_
  refine then_ext ?_
  refine blk_ne (by decide) ?_
  refine then_ext ?_
  refine blk_eq ?_
  refine then_nrm ?_
  show Code.wp Try.prog _ _ _ _
  refine wp_seq ?_
  refine wp_region_list ?_
  refine W_val hA rfl 2 rfl (by decide) _ _ (R_asg hA rfl rfl _) (fun a hA => ?_)
  refine W_nil ?_
  refine then_nrm ?_
  show Code.wp Try.prog _ _ _ _
  refine wp_ret ?_
  refine ret_tmp (j := 2) (by kernel_rfl) hA (by decide) rfl ?_
  refine ⟨congrArg (fun x : Int => Ending.returned (.int .u64 x)) ?_, rfl⟩
  unfold setC
  simp only [c1, c2, c3, if_true, if_false, Bool.false_eq_true]
  all_goals (first | rfl | decide +kernel)
end Go.Proofs.Ytkfhpmleelmcfaa
