/- Layer 12: the document's reading (written by gen_csh.py by walkf.py). -/
import Derived.Test.YtiblfdgmleckiaaCsG
namespace Go.Proofs.Ytiblfdgmleckiaa
open Go.RowKit
set_option linter.unusedVariables false
set_option maxRecDepth 100000

theorem and_asc (x a b y : Int) (h : y = bits .and .u64 x (bits .and .u64 a b)) : bits .and .u64 (bits .and .u64 x a) b = y := by
  rw [h]
  simp only [bits_and, V_U]
  rw [BitVec.and_assoc]
def docL : List Int := [256, 260, 261, 262, 320, 321, 322, 323, 324, 384, 512, 516, 517, 576, 577, 578, 579, 580, 640, 768, 769, 770, 771, 772, 773, 774, 832, 833, 834, 835, 836, 842, 843, 1536, 1538, 1539, 1540, 1541, 1542, 1543, 1603, 1604, 1605, 1610, 1664, 2816, 3072, 2818, 3074, 3073, 3602]
theorem readM_none (t : HS) (l : LS) {m : Int} (h : NeAll m docL) : readM t l m = 0 := by
  have hm := h.mem
  have n : ∀ k, k < 38 → ¬ noF k = m := fun k hk e => hm _ ((by decide +kernel : ∀ k, k < 38 → noF k ∈ docL) k hk) e.symm
  have hx : ¬ ixF m < 38 := fun c => by
    rcases ixF_cases m with ⟨_, q⟩ | ⟨q, _⟩
    · exact n _ c q
    · omega
  unfold readM viewR
  rw [if_neg hx, if_neg (hm 256 (by decide)), if_neg (hm 836 (by decide)), if_neg (hm 324 (by decide)), if_neg (hm 1604 (by decide)), if_neg (hm 580 (by decide)), if_neg (hm 260 (by decide)), if_neg (hm 1540 (by decide)), if_neg (hm 516 (by decide)), if_neg (hm 3602 (by decide)), if_neg (hm 3072 (by decide)), if_neg (hm 3074 (by decide)), if_neg (hm 3073 (by decide)), if_neg (hm 769 (by decide))]
set_option maxHeartbeats 8000000 in
theorem dread_any (t : HS) (ok : HOk t) (l : LS) (lk : LOk l) (no : Int) (w : World) : Calls Try.prog 14 #[hartV t, linesV l, .int .i64 no] w fun e w' => e = .returned (.int .u64 (readZ t l no)) ∧ Below w.heap.size w w' := by
  have HB := Below.refl w.heap.size w
  go_enter Try.func14, Try.ntmps14
  refine begin_fr [(2, .int .i64 no), (1, linesV l), (0, hartV t)] 240 ?_ (fun a hA => ?_)
  · exact FrA.add (FrA.add (FrA.add (FrA.nil (by rfl) (by rfl)) 0 _ (by rfl)) 1 _ (by rfl)) 2 _ (by rfl)
  refine wp_seq ?_
  refine wp_region_list ?_
  refine W_boxH hA rfl 3 rfl (by decide) rfl rfl (fun w1 bHH a hA hb HH gHH => ?_)
  replace gHH := Nat.le_trans HB.size gHH
  replace HB := HB.trans (hb.mono HB.size)
  clear hb
  refine W_boxL hA rfl 4 rfl (by decide) rfl rfl (fun w2 bLL a hA hb LL gLL => ?_)
  have nHHLL : bHH < bLL := by have := HH.lt; omega
  replace HH := HH.below hb
  replace gLL := Nat.le_trans HB.size gLL
  replace HB := HB.trans (hb.mono HB.size)
  clear hb
  refine W_val hA rfl 6 rfl (by decide) _ _ (R_asg hA rfl rfl _) (fun a hA => ?_)
  refine W_nil ?_
  refine then_nrm ?_
  show Code.wp Try.prog _ _ _ _
  refine wp_seq ?_
  refine wp_seq ?_
  refine wp_region_list ?_
  refine W_val hA rfl 7 rfl (by decide) _ _ (R_row hA rfl rfl HH Try.underlying25 (size_hart.trans (by rw [varr_size]))) (fun a hA => ?_)
  refine W_val hA rfl 8 rfl (by decide) _ _ (R_mov hA rfl rfl _) (fun a hA => ?_)
  refine W_call2 hA (by decide) (fun _ _ => by kernel_rfl) rfl rfl (dmeant_any _ _ _) (fun w3 hw a hA => ?_)
  replace HB := HB.trans (hw.mono HB.size)
  replace HH := HH.below hw
  replace LL := LL.below hw
  clear hw
  generalize hm : meantZ t.v no = m at hA
  refine W_nil ?_
  refine then_nrm ?_
  show Code.wp Try.prog _ _ _ _
  refine wp_block ?_
  refine W_test hA rfl (by decide) (by decide) rfl rfl (fun c1 a hA => ?_) (fun c1 a hA => ?_)
  · skip
    refine wp_seq ?_
    refine wp_region_list ?_
    refine W_val hA rfl 12 rfl (by decide) _ _ (R_fa hA rfl rfl (fun w => fa_hart _ 7 38 (by decide) rfl w) _) (fun a hA => ?_)
    refine W_val hA rfl 13 rfl (by decide) _ _ (R_ld hA rfl rfl ag_u64 (HH.u 38 (by decide) (by decide))) (fun a hA => ?_)
    refine W_val hA rfl 14 rfl (by decide) _ _ (R_and hA rfl rfl rfl _) (fun a hA => ?_)
    refine W_val hA rfl 15 rfl (by decide) _ _ (R_or hA rfl rfl rfl _) (fun a hA => ?_)
    refine W_val hA rfl 6 rfl (by decide) _ _ (R_asg hA rfl rfl _) (fun a hA => ?_)
    refine W_nil ?_
    refine then_nrm ?_
    show Code.wp Try.prog _ _ _ _
    refine wp_ret ?_
    refine blk_ret ?_
    refine then_ret ?_
    refine ret_tmp (j := 6) (by kernel_rfl) hA (by decide) rfl ?_
    refine ⟨congrArg (fun x : Int => Ending.returned (.int .u64 x)) ?_, HB⟩
    unfold readZ
    rw [hm]
    have e := eq_of_beq c1
    subst e
    rfl
  refine W_test hA rfl (by decide) (by decide) rfl rfl (fun c2 a hA => ?_) (fun c2 a hA => ?_)
  · skip
    refine wp_seq ?_
    refine wp_region_list ?_
    refine W_val hA rfl 18 rfl (by decide) _ _ (R_fa hA rfl rfl (fun w => fa_hart _ 10 41 (by decide) rfl w) _) (fun a hA => ?_)
    refine W_val hA rfl 19 rfl (by decide) _ _ (R_ld hA rfl rfl ag_u64 (HH.u 41 (by decide) (by decide))) (fun a hA => ?_)
    refine W_val hA rfl 20 rfl (by decide) _ _ (R_and hA rfl rfl rfl _) (fun a hA => ?_)
    refine W_val hA rfl 21 rfl (by decide) _ _ (R_fa hA rfl rfl (fun w => fa_hart _ 9 40 (by decide) rfl w) _) (fun a hA => ?_)
    refine W_val hA rfl 22 rfl (by decide) _ _ (R_ld hA rfl rfl ag_u64 (HH.u 40 (by decide) (by decide))) (fun a hA => ?_)
    refine W_val hA rfl 23 rfl (by decide) _ _ (R_and hA rfl rfl rfl _) (fun a hA => ?_)
    refine W_val hA rfl 6 rfl (by decide) _ _ (R_asg hA rfl rfl _) (fun a hA => ?_)
    refine W_nil ?_
    refine then_nrm ?_
    show Code.wp Try.prog _ _ _ _
    refine wp_ret ?_
    refine blk_ret ?_
    refine then_ret ?_
    refine ret_tmp (j := 6) (by kernel_rfl) hA (by decide) rfl ?_
    refine ⟨congrArg (fun x : Int => Ending.returned (.int .u64 x)) ?_, HB⟩
    unfold readZ
    rw [hm]
    have e := eq_of_beq c2
    subst e
    exact and_asc _ _ _ _ rfl
  refine W_test hA rfl (by decide) (by decide) rfl rfl (fun c3 a hA => ?_) (fun c3 a hA => ?_)
  · skip
    refine wp_seq ?_
    refine wp_region_list ?_
    refine W_val hA rfl 26 rfl (by decide) _ _ (R_fa hA rfl rfl (fun w => fa_hart _ 20 51 (by decide) rfl w) _) (fun a hA => ?_)
    refine W_val hA rfl 27 rfl (by decide) _ _ (R_ld hA rfl rfl ag_u64 (HH.u 51 (by decide) (by decide))) (fun a hA => ?_)
    refine W_val hA rfl 6 rfl (by decide) _ _ (R_asg hA rfl rfl _) (fun a hA => ?_)
    refine W_nil ?_
    refine then_nrm ?_
    show Code.wp Try.prog _ _ _ _
    refine wp_ret ?_
    refine blk_ret ?_
    refine then_ret ?_
    refine ret_tmp (j := 6) (by kernel_rfl) hA (by decide) rfl ?_
    refine ⟨congrArg (fun x : Int => Ending.returned (.int .u64 x)) ?_, HB⟩
    unfold readZ
    rw [hm]
    have e := eq_of_beq c3
    subst e
    rfl
  refine W_test hA rfl (by decide) (by decide) rfl rfl (fun c4 a hA => ?_) (fun c4 a hA => ?_)
  · skip
    refine wp_seq ?_
    refine wp_region_list ?_
    refine W_val hA rfl 30 rfl (by decide) _ _ (R_fa hA rfl rfl (fun w => fa_hart _ 21 52 (by decide) rfl w) _) (fun a hA => ?_)
    refine W_val hA rfl 31 rfl (by decide) _ _ (R_ld hA rfl rfl ag_u64 (HH.u 52 (by decide) (by decide))) (fun a hA => ?_)
    refine W_val hA rfl 6 rfl (by decide) _ _ (R_asg hA rfl rfl _) (fun a hA => ?_)
    refine W_nil ?_
    refine then_nrm ?_
    show Code.wp Try.prog _ _ _ _
    refine wp_ret ?_
    refine blk_ret ?_
    refine then_ret ?_
    refine ret_tmp (j := 6) (by kernel_rfl) hA (by decide) rfl ?_
    refine ⟨congrArg (fun x : Int => Ending.returned (.int .u64 x)) ?_, HB⟩
    unfold readZ
    rw [hm]
    have e := eq_of_beq c4
    subst e
    rfl
  refine W_test hA rfl (by decide) (by decide) rfl rfl (fun c5 a hA => ?_) (fun c5 a hA => ?_)
  · skip
    refine wp_seq ?_
    refine wp_region_list ?_
    refine W_val hA rfl 34 rfl (by decide) _ _ (R_fa hA rfl rfl (fun w => fa_hart _ 22 53 (by decide) rfl w) _) (fun a hA => ?_)
    refine W_val hA rfl 35 rfl (by decide) _ _ (R_ld hA rfl rfl ag_u64 (HH.u 53 (by decide) (by decide))) (fun a hA => ?_)
    refine W_val hA rfl 6 rfl (by decide) _ _ (R_asg hA rfl rfl _) (fun a hA => ?_)
    refine W_nil ?_
    refine then_nrm ?_
    show Code.wp Try.prog _ _ _ _
    refine wp_ret ?_
    refine blk_ret ?_
    refine then_ret ?_
    refine ret_tmp (j := 6) (by kernel_rfl) hA (by decide) rfl ?_
    refine ⟨congrArg (fun x : Int => Ending.returned (.int .u64 x)) ?_, HB⟩
    unfold readZ
    rw [hm]
    have e := eq_of_beq c5
    subst e
    rfl
  refine W_test hA rfl (by decide) (by decide) rfl rfl (fun c6 a hA => ?_) (fun c6 a hA => ?_)
  · skip
    refine wp_seq ?_
    refine wp_region_list ?_
    refine W_val hA rfl 38 rfl (by decide) _ _ (R_fa hA rfl rfl (fun w => fa_hart _ 23 54 (by decide) rfl w) _) (fun a hA => ?_)
    refine W_val hA rfl 39 rfl (by decide) _ _ (R_ld hA rfl rfl ag_u64 (HH.u 54 (by decide) (by decide))) (fun a hA => ?_)
    refine W_val hA rfl 6 rfl (by decide) _ _ (R_asg hA rfl rfl _) (fun a hA => ?_)
    refine W_nil ?_
    refine then_nrm ?_
    show Code.wp Try.prog _ _ _ _
    refine wp_ret ?_
    refine blk_ret ?_
    refine then_ret ?_
    refine ret_tmp (j := 6) (by kernel_rfl) hA (by decide) rfl ?_
    refine ⟨congrArg (fun x : Int => Ending.returned (.int .u64 x)) ?_, HB⟩
    unfold readZ
    rw [hm]
    have e := eq_of_beq c6
    subst e
    rfl
  refine W_test hA rfl (by decide) (by decide) rfl rfl (fun c7 a hA => ?_) (fun c7 a hA => ?_)
  · skip
    refine wp_seq ?_
    refine wp_region_list ?_
    refine W_val hA rfl 42 rfl (by decide) _ _ (R_fa hA rfl rfl (fun w => fa_hart _ 24 55 (by decide) rfl w) _) (fun a hA => ?_)
    refine W_val hA rfl 43 rfl (by decide) _ _ (R_ld hA rfl rfl ag_u64 (HH.u 55 (by decide) (by decide))) (fun a hA => ?_)
    refine W_val hA rfl 6 rfl (by decide) _ _ (R_asg hA rfl rfl _) (fun a hA => ?_)
    refine W_nil ?_
    refine then_nrm ?_
    show Code.wp Try.prog _ _ _ _
    refine wp_ret ?_
    refine blk_ret ?_
    refine then_ret ?_
    refine ret_tmp (j := 6) (by kernel_rfl) hA (by decide) rfl ?_
    refine ⟨congrArg (fun x : Int => Ending.returned (.int .u64 x)) ?_, HB⟩
    unfold readZ
    rw [hm]
    have e := eq_of_beq c7
    subst e
    rfl
  refine W_test hA rfl (by decide) (by decide) rfl rfl (fun c8 a hA => ?_) (fun c8 a hA => ?_)
  · skip
    refine wp_seq ?_
    refine wp_region_list ?_
    refine W_val hA rfl 46 rfl (by decide) _ _ (R_fa hA rfl rfl (fun w => fa_hart _ 25 56 (by decide) rfl w) _) (fun a hA => ?_)
    refine W_val hA rfl 47 rfl (by decide) _ _ (R_ld hA rfl rfl ag_u64 (HH.u 56 (by decide) (by decide))) (fun a hA => ?_)
    refine W_val hA rfl 6 rfl (by decide) _ _ (R_asg hA rfl rfl _) (fun a hA => ?_)
    refine W_nil ?_
    refine then_nrm ?_
    show Code.wp Try.prog _ _ _ _
    refine wp_ret ?_
    refine blk_ret ?_
    refine then_ret ?_
    refine ret_tmp (j := 6) (by kernel_rfl) hA (by decide) rfl ?_
    refine ⟨congrArg (fun x : Int => Ending.returned (.int .u64 x)) ?_, HB⟩
    unfold readZ
    rw [hm]
    have e := eq_of_beq c8
    subst e
    rfl
  refine W_test hA rfl (by decide) (by decide) rfl rfl (fun c9 a hA => ?_) (fun c9 a hA => ?_)
  · skip
    refine wp_seq ?_
    refine wp_region_held_drew (S := fun wx => Below w3.heap.size w3 wx) (by kernel_rfl) ((Below.refl _ _).drew) (fun hS => ?_)
    refine takeF (i := 0) hA 50 rfl rfl (by decide) rfl (by kernel_rfl) (by kernel_rfl) (by kernel_rfl) (fun _ _ _ h => h) hS (fun wx hx => R_row hA rfl rfl (HH.below hx) Try.underlying25 (size_hart.trans (by rw [varr_size]))) (fun a hA => ?_)
    refine takeF (i := 1) hA 51 rfl rfl (by decide) rfl (by kernel_rfl) (by kernel_rfl) (by kernel_rfl) (fun _ _ _ h => h) hS (fun wx hx => R_row hA rfl rfl (LL.below hx) Try.underlying27 (by kernel_rfl)) (fun a hA => ?_)
    refine takeF (i := 4) hA 54 rfl rfl (by decide) rfl (by kernel_rfl) (by kernel_rfl) (by kernel_rfl) (fun _ _ _ h => h) hS (fun wx hx => R_fa hA rfl rfl (fun w => fa_hart _ 9 40 (by decide) rfl w) _) (fun a hA => ?_)
    refine takeF (i := 5) hA 55 rfl rfl (by decide) rfl (by kernel_rfl) (by kernel_rfl) (by kernel_rfl) (fun _ _ _ h => h) hS (fun wx hx => R_ld hA rfl rfl ag_u64 ((HH.below hx).u 40 (by decide) (by decide))) (fun a hA => ?_)
    refine wpAnyH_ready (rs := [2]) (by kernel_rfl) (by simp) ?_
    refine ready_call (i := 2) hA (by decide) rfl (fun _ _ => by kernel_rfl) (args2 hA rfl rfl) (dpend_any _ ok _ lk _) (fun _ h => hS.trans (h.mono hS.size)) (fun w4 hw a hA => ?_) ?_
    · skip
      replace hS := hS.trans (hw.mono hS.size)
      clear hw
      refine takeF (i := 3) hA 53 rfl rfl (by decide) rfl (by kernel_rfl) (by kernel_rfl) (by kernel_rfl) (fun _ _ _ h => h) hS (fun wx hx => R_and hA rfl rfl rfl _) (fun a hA => ?_)
      refine takeF (i := 6) hA 56 rfl rfl (by decide) rfl (by kernel_rfl) (by kernel_rfl) (by kernel_rfl) (fun _ _ _ h => h) hS (fun wx hx => R_and hA rfl rfl rfl _) (fun a hA => ?_)
      refine takeF (i := 7) hA 6 rfl rfl (by decide) rfl (by kernel_rfl) (by kernel_rfl) (by kernel_rfl) (fun _ _ _ h => h) hS (fun wx hx => R_asg hA rfl rfl _) (fun a hA => ?_)
      refine wpAnyH_done (by kernel_rfl) ?_ _
      replace HH := HH.below hS
      replace LL := LL.below hS
      replace HB := HB.trans (hS.mono HB.size)
      clear hS
      refine then_nrm ?_
      show Code.wp Try.prog _ _ _ _
      refine wp_ret ?_
      refine blk_ret ?_
      refine then_ret ?_
      refine ret_tmp (j := 6) (by kernel_rfl) hA (by decide) rfl ?_
      refine ⟨congrArg (fun x : Int => Ending.returned (.int .u64 x)) ?_, HB⟩
      unfold readZ
      rw [hm]
      have e := eq_of_beq c9
      subst e
      exact and_asc _ _ _ _ rfl
    exact AllReadyH.nil
  refine W_test hA rfl (by decide) (by decide) rfl rfl (fun c10 a hA => ?_) (fun c10 a hA => ?_)
  · skip
    refine wp_seq ?_
    refine wp_region_list ?_
    refine W_val hA rfl 59 rfl (by decide) _ _ (R_fa hA rfl rfl (fun w => fa_hart _ 26 57 (by decide) rfl w) _) (fun a hA => ?_)
    refine W_val hA rfl 60 rfl (by decide) _ _ (R_ld hA rfl rfl ag_u64 (HH.u 57 (by decide) (by decide))) (fun a hA => ?_)
    refine W_val hA rfl 6 rfl (by decide) _ _ (R_asg hA rfl rfl _) (fun a hA => ?_)
    refine W_nil ?_
    refine then_nrm ?_
    show Code.wp Try.prog _ _ _ _
    refine wp_ret ?_
    refine blk_ret ?_
    refine then_ret ?_
    refine ret_tmp (j := 6) (by kernel_rfl) hA (by decide) rfl ?_
    refine ⟨congrArg (fun x : Int => Ending.returned (.int .u64 x)) ?_, HB⟩
    unfold readZ
    rw [hm]
    have e := eq_of_beq c10
    subst e
    rfl
  refine W_test hA rfl (by decide) (by decide) rfl rfl (fun c11 a hA => ?_) (fun c11 a hA => ?_)
  · skip
    refine wp_seq ?_
    refine wp_region_list ?_
    refine W_val hA rfl 63 rfl (by decide) _ _ (R_fa hA rfl rfl (fun w => fa_hart _ 37 68 (by decide) rfl w) _) (fun a hA => ?_)
    refine W_val hA rfl 64 rfl (by decide) _ _ (R_ld hA rfl rfl ag_u64 (HH.u 68 (by decide) (by decide))) (fun a hA => ?_)
    refine W_val hA rfl 6 rfl (by decide) _ _ (R_asg hA rfl rfl _) (fun a hA => ?_)
    refine W_nil ?_
    refine then_nrm ?_
    show Code.wp Try.prog _ _ _ _
    refine wp_ret ?_
    refine blk_ret ?_
    refine then_ret ?_
    refine ret_tmp (j := 6) (by kernel_rfl) hA (by decide) rfl ?_
    refine ⟨congrArg (fun x : Int => Ending.returned (.int .u64 x)) ?_, HB⟩
    unfold readZ
    rw [hm]
    have e := eq_of_beq c11
    subst e
    rfl
  refine W_test hA rfl (by decide) (by decide) rfl rfl (fun c12 a hA => ?_) (fun c12 a hA => ?_)
  · skip
    refine wp_seq ?_
    refine wp_region_list ?_
    refine W_val hA rfl 67 rfl (by decide) _ _ (R_fa hA rfl rfl (fun w => fa_hart _ 10 41 (by decide) rfl w) _) (fun a hA => ?_)
    refine W_val hA rfl 68 rfl (by decide) _ _ (R_ld hA rfl rfl ag_u64 (HH.u 41 (by decide) (by decide))) (fun a hA => ?_)
    refine W_val hA rfl 69 rfl (by decide) _ _ (R_and hA rfl rfl rfl _) (fun a hA => ?_)
    refine W_val hA rfl 70 rfl (by decide) _ _ (R_fa hA rfl rfl (fun w => fa_hart _ 29 60 (by decide) rfl w) _) (fun a hA => ?_)
    refine W_val hA rfl 71 rfl (by decide) _ _ (R_ld hA rfl rfl ag_u64 (HH.u 60 (by decide) (by decide))) (fun a hA => ?_)
    refine W_val hA rfl 72 rfl (by decide) _ _ (R_and hA rfl rfl rfl _) (fun a hA => ?_)
    refine W_val hA rfl 73 rfl (by decide) _ _ (R_quo2 hA rfl rfl rfl (by first | exact and_in _ _ | exact h0) rfl _) (fun a hA => ?_)
    refine W_val hA rfl 6 rfl (by decide) _ _ (R_asg hA rfl rfl _) (fun a hA => ?_)
    refine W_nil ?_
    refine then_nrm ?_
    show Code.wp Try.prog _ _ _ _
    refine wp_ret ?_
    refine blk_ret ?_
    refine then_ret ?_
    refine ret_tmp (j := 6) (by kernel_rfl) hA (by decide) rfl ?_
    refine ⟨congrArg (fun x : Int => Ending.returned (.int .u64 x)) ?_, HB⟩
    unfold readZ
    rw [hm]
    have e := eq_of_beq c12
    subst e
    exact congrArg (· / 2) (and_asc _ _ _ _ rfl)
  refine W_test hA rfl (by decide) (by decide) rfl rfl (fun c13 a hA => ?_) (fun c13 a hA => ?_)
  · skip
    refine wp_seq ?_
    refine wp_region_list ?_
    refine W_val hA rfl 76 rfl (by decide) _ _ (R_fa hA rfl rfl (fun w => fa_hart _ 38 69 (by decide) rfl w) _) (fun a hA => ?_)
    refine W_val hA rfl 77 rfl (by decide) _ _ (R_ld hA rfl rfl ag_u64 (HH.u 69 (by decide) (by decide))) (fun a hA => ?_)
    refine W_val hA rfl 6 rfl (by decide) _ _ (R_asg hA rfl rfl _) (fun a hA => ?_)
    refine W_nil ?_
    refine then_nrm ?_
    show Code.wp Try.prog _ _ _ _
    refine wp_ret ?_
    refine blk_ret ?_
    refine then_ret ?_
    refine ret_tmp (j := 6) (by kernel_rfl) hA (by decide) rfl ?_
    refine ⟨congrArg (fun x : Int => Ending.returned (.int .u64 x)) ?_, HB⟩
    unfold readZ
    rw [hm]
    have e := eq_of_beq c13
    subst e
    rfl
  refine W_test hA rfl (by decide) (by decide) rfl rfl (fun c14 a hA => ?_) (fun c14 a hA => ?_)
  · skip
    refine wp_seq ?_
    refine wp_region_list ?_
    refine W_val hA rfl 80 rfl (by decide) _ _ (R_fa hA rfl rfl (fun w => fa_hart _ 39 70 (by decide) rfl w) _) (fun a hA => ?_)
    refine W_val hA rfl 81 rfl (by decide) _ _ (R_ld hA rfl rfl ag_u64 (HH.u 70 (by decide) (by decide))) (fun a hA => ?_)
    refine W_val hA rfl 6 rfl (by decide) _ _ (R_asg hA rfl rfl _) (fun a hA => ?_)
    refine W_nil ?_
    refine then_nrm ?_
    show Code.wp Try.prog _ _ _ _
    refine wp_ret ?_
    refine blk_ret ?_
    refine then_ret ?_
    refine ret_tmp (j := 6) (by kernel_rfl) hA (by decide) rfl ?_
    refine ⟨congrArg (fun x : Int => Ending.returned (.int .u64 x)) ?_, HB⟩
    unfold readZ
    rw [hm]
    have e := eq_of_beq c14
    subst e
    rfl
  refine W_test hA rfl (by decide) (by decide) rfl rfl (fun c15 a hA => ?_) (fun c15 a hA => ?_)
  · skip
    refine wp_seq ?_
    refine wp_region_list ?_
    refine W_val hA rfl 84 rfl (by decide) _ _ (R_fa hA rfl rfl (fun w => fa_hart _ 40 71 (by decide) rfl w) _) (fun a hA => ?_)
    refine W_val hA rfl 85 rfl (by decide) _ _ (R_ld hA rfl rfl ag_u64 (HH.u 71 (by decide) (by decide))) (fun a hA => ?_)
    refine W_val hA rfl 6 rfl (by decide) _ _ (R_asg hA rfl rfl _) (fun a hA => ?_)
    refine W_nil ?_
    refine then_nrm ?_
    show Code.wp Try.prog _ _ _ _
    refine wp_ret ?_
    refine blk_ret ?_
    refine then_ret ?_
    refine ret_tmp (j := 6) (by kernel_rfl) hA (by decide) rfl ?_
    refine ⟨congrArg (fun x : Int => Ending.returned (.int .u64 x)) ?_, HB⟩
    unfold readZ
    rw [hm]
    have e := eq_of_beq c15
    subst e
    rfl
  refine W_test hA rfl (by decide) (by decide) rfl rfl (fun c16 a hA => ?_) (fun c16 a hA => ?_)
  · skip
    refine wp_seq ?_
    refine wp_region_list ?_
    refine W_val hA rfl 88 rfl (by decide) _ _ (R_fa hA rfl rfl (fun w => fa_hart _ 41 72 (by decide) rfl w) _) (fun a hA => ?_)
    refine W_val hA rfl 89 rfl (by decide) _ _ (R_ld hA rfl rfl ag_u64 (HH.u 72 (by decide) (by decide))) (fun a hA => ?_)
    refine W_val hA rfl 6 rfl (by decide) _ _ (R_asg hA rfl rfl _) (fun a hA => ?_)
    refine W_nil ?_
    refine then_nrm ?_
    show Code.wp Try.prog _ _ _ _
    refine wp_ret ?_
    refine blk_ret ?_
    refine then_ret ?_
    refine ret_tmp (j := 6) (by kernel_rfl) hA (by decide) rfl ?_
    refine ⟨congrArg (fun x : Int => Ending.returned (.int .u64 x)) ?_, HB⟩
    unfold readZ
    rw [hm]
    have e := eq_of_beq c16
    subst e
    rfl
  refine W_test hA rfl (by decide) (by decide) rfl rfl (fun c17 a hA => ?_) (fun c17 a hA => ?_)
  · skip
    refine wp_seq ?_
    refine wp_region_list ?_
    refine W_val hA rfl 92 rfl (by decide) _ _ (R_fa hA rfl rfl (fun w => fa_hart _ 42 73 (by decide) rfl w) _) (fun a hA => ?_)
    refine W_val hA rfl 93 rfl (by decide) _ _ (R_ld hA rfl rfl ag_u64 (HH.u 73 (by decide) (by decide))) (fun a hA => ?_)
    refine W_val hA rfl 6 rfl (by decide) _ _ (R_asg hA rfl rfl _) (fun a hA => ?_)
    refine W_nil ?_
    refine then_nrm ?_
    show Code.wp Try.prog _ _ _ _
    refine wp_ret ?_
    refine blk_ret ?_
    refine then_ret ?_
    refine ret_tmp (j := 6) (by kernel_rfl) hA (by decide) rfl ?_
    refine ⟨congrArg (fun x : Int => Ending.returned (.int .u64 x)) ?_, HB⟩
    unfold readZ
    rw [hm]
    have e := eq_of_beq c17
    subst e
    rfl
  refine W_test hA rfl (by decide) (by decide) rfl rfl (fun c18 a hA => ?_) (fun c18 a hA => ?_)
  · skip
    refine wp_seq ?_
    refine wp_region_held_drew (S := fun wx => Below w3.heap.size w3 wx) (by kernel_rfl) ((Below.refl _ _).drew) (fun hS => ?_)
    refine takeF (i := 0) hA 96 rfl rfl (by decide) rfl (by kernel_rfl) (by kernel_rfl) (by kernel_rfl) (fun _ _ _ h => h) hS (fun wx hx => R_row hA rfl rfl (HH.below hx) Try.underlying25 (size_hart.trans (by rw [varr_size]))) (fun a hA => ?_)
    refine takeF (i := 1) hA 97 rfl rfl (by decide) rfl (by kernel_rfl) (by kernel_rfl) (by kernel_rfl) (fun _ _ _ h => h) hS (fun wx hx => R_row hA rfl rfl (LL.below hx) Try.underlying27 (by kernel_rfl)) (fun a hA => ?_)
    refine takeF (i := 4) hA 100 rfl rfl (by decide) rfl (by kernel_rfl) (by kernel_rfl) (by kernel_rfl) (fun _ _ _ h => h) hS (fun wx hx => R_fa hA rfl rfl (fun w => fa_hart _ 29 60 (by decide) rfl w) _) (fun a hA => ?_)
    refine takeF (i := 5) hA 101 rfl rfl (by decide) rfl (by kernel_rfl) (by kernel_rfl) (by kernel_rfl) (fun _ _ _ h => h) hS (fun wx hx => R_ld hA rfl rfl ag_u64 ((HH.below hx).u 60 (by decide) (by decide))) (fun a hA => ?_)
    refine wpAnyH_ready (rs := [2]) (by kernel_rfl) (by simp) ?_
    refine ready_call (i := 2) hA (by decide) rfl (fun _ _ => by kernel_rfl) (args2 hA rfl rfl) (dpend_any _ ok _ lk _) (fun _ h => hS.trans (h.mono hS.size)) (fun w6 hw a hA => ?_) ?_
    · skip
      replace hS := hS.trans (hw.mono hS.size)
      clear hw
      refine takeF (i := 3) hA 99 rfl rfl (by decide) rfl (by kernel_rfl) (by kernel_rfl) (by kernel_rfl) (fun _ _ _ h => h) hS (fun wx hx => R_and hA rfl rfl rfl _) (fun a hA => ?_)
      refine takeF (i := 6) hA 102 rfl rfl (by decide) rfl (by kernel_rfl) (by kernel_rfl) (by kernel_rfl) (fun _ _ _ h => h) hS (fun wx hx => R_and hA rfl rfl rfl _) (fun a hA => ?_)
      refine takeF (i := 7) hA 103 rfl rfl (by decide) rfl (by kernel_rfl) (by kernel_rfl) (by kernel_rfl) (fun _ _ _ h => h) hS (fun wx hx => R_quo2 hA rfl rfl rfl (by first | exact and_in _ _ | exact h0) rfl _) (fun a hA => ?_)
      refine takeF (i := 8) hA 6 rfl rfl (by decide) rfl (by kernel_rfl) (by kernel_rfl) (by kernel_rfl) (fun _ _ _ h => h) hS (fun wx hx => R_asg hA rfl rfl _) (fun a hA => ?_)
      refine wpAnyH_done (by kernel_rfl) ?_ _
      replace HH := HH.below hS
      replace LL := LL.below hS
      replace HB := HB.trans (hS.mono HB.size)
      clear hS
      refine then_nrm ?_
      show Code.wp Try.prog _ _ _ _
      refine wp_ret ?_
      refine blk_ret ?_
      refine then_ret ?_
      refine ret_tmp (j := 6) (by kernel_rfl) hA (by decide) rfl ?_
      refine ⟨congrArg (fun x : Int => Ending.returned (.int .u64 x)) ?_, HB⟩
      unfold readZ
      rw [hm]
      have e := eq_of_beq c18
      subst e
      exact congrArg (· / 2) (and_asc _ _ _ _ rfl)
    exact AllReadyH.nil
  refine W_test hA rfl (by decide) (by decide) rfl rfl (fun c19 a hA => ?_) (fun c19 a hA => ?_)
  · skip
    refine wp_seq ?_
    refine wp_region_list ?_
    refine W_val hA rfl 106 rfl (by decide) _ _ (R_fa hA rfl rfl (fun w => fa_hart _ 43 74 (by decide) rfl w) _) (fun a hA => ?_)
    refine W_val hA rfl 107 rfl (by decide) _ _ (R_ld hA rfl rfl ag_u64 (HH.u 74 (by decide) (by decide))) (fun a hA => ?_)
    refine W_val hA rfl 6 rfl (by decide) _ _ (R_asg hA rfl rfl _) (fun a hA => ?_)
    refine W_nil ?_
    refine then_nrm ?_
    show Code.wp Try.prog _ _ _ _
    refine wp_ret ?_
    refine blk_ret ?_
    refine then_ret ?_
    refine ret_tmp (j := 6) (by kernel_rfl) hA (by decide) rfl ?_
    refine ⟨congrArg (fun x : Int => Ending.returned (.int .u64 x)) ?_, HB⟩
    unfold readZ
    rw [hm]
    have e := eq_of_beq c19
    subst e
    rfl
  refine W_test hA rfl (by decide) (by decide) rfl rfl (fun c20 a hA => ?_) (fun c20 a hA => ?_)
  · skip
    refine wp_seq ?_
    refine wp_region_list ?_
    refine W_val hA rfl 110 rfl (by decide) _ _ (R_fa hA rfl rfl (fun w => fa_hart _ 7 38 (by decide) rfl w) _) (fun a hA => ?_)
    refine W_val hA rfl 111 rfl (by decide) _ _ (R_ld hA rfl rfl ag_u64 (HH.u 38 (by decide) (by decide))) (fun a hA => ?_)
    refine W_val hA rfl 6 rfl (by decide) _ _ (R_asg hA rfl rfl _) (fun a hA => ?_)
    refine W_nil ?_
    refine then_nrm ?_
    show Code.wp Try.prog _ _ _ _
    refine wp_ret ?_
    refine blk_ret ?_
    refine then_ret ?_
    refine ret_tmp (j := 6) (by kernel_rfl) hA (by decide) rfl ?_
    refine ⟨congrArg (fun x : Int => Ending.returned (.int .u64 x)) ?_, HB⟩
    unfold readZ
    rw [hm]
    have e := eq_of_beq c20
    subst e
    rfl
  refine W_test hA rfl (by decide) (by decide) rfl rfl (fun c21 a hA => ?_) (fun c21 a hA => ?_)
  · skip
    refine wp_seq ?_
    refine wp_region_list ?_
    refine W_val hA rfl 6 rfl (by decide) _ _ (R_asg hA rfl rfl _) (fun a hA => ?_)
    refine W_nil ?_
    refine then_nrm ?_
    show Code.wp Try.prog _ _ _ _
    refine wp_ret ?_
    refine blk_ret ?_
    refine then_ret ?_
    refine ret_tmp (j := 6) (by kernel_rfl) hA (by decide) rfl ?_
    refine ⟨congrArg (fun x : Int => Ending.returned (.int .u64 x)) ?_, HB⟩
    unfold readZ
    rw [hm]
    have e := eq_of_beq c21
    subst e
    rfl
  refine W_test hA rfl (by decide) (by decide) rfl rfl (fun c22 a hA => ?_) (fun c22 a hA => ?_)
  · skip
    refine wp_seq ?_
    refine wp_region_list ?_
    refine W_val hA rfl 116 rfl (by decide) _ _ (R_fa hA rfl rfl (fun w => fa_hart _ 8 39 (by decide) rfl w) _) (fun a hA => ?_)
    refine W_val hA rfl 117 rfl (by decide) _ _ (R_ld hA rfl rfl ag_u64 (HH.u 39 (by decide) (by decide))) (fun a hA => ?_)
    refine W_val hA rfl 6 rfl (by decide) _ _ (R_asg hA rfl rfl _) (fun a hA => ?_)
    refine W_nil ?_
    refine then_nrm ?_
    show Code.wp Try.prog _ _ _ _
    refine wp_ret ?_
    refine blk_ret ?_
    refine then_ret ?_
    refine ret_tmp (j := 6) (by kernel_rfl) hA (by decide) rfl ?_
    refine ⟨congrArg (fun x : Int => Ending.returned (.int .u64 x)) ?_, HB⟩
    unfold readZ
    rw [hm]
    have e := eq_of_beq c22
    subst e
    rfl
  refine W_test hA rfl (by decide) (by decide) rfl rfl (fun c23 a hA => ?_) (fun c23 a hA => ?_)
  · skip
    refine wp_seq ?_
    refine wp_region_list ?_
    refine W_val hA rfl 120 rfl (by decide) _ _ (R_fa hA rfl rfl (fun w => fa_hart _ 9 40 (by decide) rfl w) _) (fun a hA => ?_)
    refine W_val hA rfl 121 rfl (by decide) _ _ (R_ld hA rfl rfl ag_u64 (HH.u 40 (by decide) (by decide))) (fun a hA => ?_)
    refine W_val hA rfl 6 rfl (by decide) _ _ (R_asg hA rfl rfl _) (fun a hA => ?_)
    refine W_nil ?_
    refine then_nrm ?_
    show Code.wp Try.prog _ _ _ _
    refine wp_ret ?_
    refine blk_ret ?_
    refine then_ret ?_
    refine ret_tmp (j := 6) (by kernel_rfl) hA (by decide) rfl ?_
    refine ⟨congrArg (fun x : Int => Ending.returned (.int .u64 x)) ?_, HB⟩
    unfold readZ
    rw [hm]
    have e := eq_of_beq c23
    subst e
    rfl
  refine W_test hA rfl (by decide) (by decide) rfl rfl (fun c24 a hA => ?_) (fun c24 a hA => ?_)
  · skip
    refine wp_seq ?_
    refine wp_region_list ?_
    refine W_val hA rfl 124 rfl (by decide) _ _ (R_fa hA rfl rfl (fun w => fa_hart _ 10 41 (by decide) rfl w) _) (fun a hA => ?_)
    refine W_val hA rfl 125 rfl (by decide) _ _ (R_ld hA rfl rfl ag_u64 (HH.u 41 (by decide) (by decide))) (fun a hA => ?_)
    refine W_val hA rfl 6 rfl (by decide) _ _ (R_asg hA rfl rfl _) (fun a hA => ?_)
    refine W_nil ?_
    refine then_nrm ?_
    show Code.wp Try.prog _ _ _ _
    refine wp_ret ?_
    refine blk_ret ?_
    refine then_ret ?_
    refine ret_tmp (j := 6) (by kernel_rfl) hA (by decide) rfl ?_
    refine ⟨congrArg (fun x : Int => Ending.returned (.int .u64 x)) ?_, HB⟩
    unfold readZ
    rw [hm]
    have e := eq_of_beq c24
    subst e
    rfl
  refine W_test hA rfl (by decide) (by decide) rfl rfl (fun c25 a hA => ?_) (fun c25 a hA => ?_)
  · skip
    refine wp_seq ?_
    refine wp_region_list ?_
    refine W_val hA rfl 128 rfl (by decide) _ _ (R_fa hA rfl rfl (fun w => fa_hart _ 12 43 (by decide) rfl w) _) (fun a hA => ?_)
    refine W_val hA rfl 129 rfl (by decide) _ _ (R_ld hA rfl rfl ag_u64 (HH.u 43 (by decide) (by decide))) (fun a hA => ?_)
    refine W_val hA rfl 6 rfl (by decide) _ _ (R_asg hA rfl rfl _) (fun a hA => ?_)
    refine W_nil ?_
    refine then_nrm ?_
    show Code.wp Try.prog _ _ _ _
    refine wp_ret ?_
    refine blk_ret ?_
    refine then_ret ?_
    refine ret_tmp (j := 6) (by kernel_rfl) hA (by decide) rfl ?_
    refine ⟨congrArg (fun x : Int => Ending.returned (.int .u64 x)) ?_, HB⟩
    unfold readZ
    rw [hm]
    have e := eq_of_beq c25
    subst e
    rfl
  refine W_test hA rfl (by decide) (by decide) rfl rfl (fun c26 a hA => ?_) (fun c26 a hA => ?_)
  · skip
    refine wp_seq ?_
    refine wp_region_list ?_
    refine W_val hA rfl 132 rfl (by decide) _ _ (R_fa hA rfl rfl (fun w => fa_hart _ 13 44 (by decide) rfl w) _) (fun a hA => ?_)
    refine W_val hA rfl 133 rfl (by decide) _ _ (R_ld hA rfl rfl ag_u64 (HH.u 44 (by decide) (by decide))) (fun a hA => ?_)
    refine W_val hA rfl 6 rfl (by decide) _ _ (R_asg hA rfl rfl _) (fun a hA => ?_)
    refine W_nil ?_
    refine then_nrm ?_
    show Code.wp Try.prog _ _ _ _
    refine wp_ret ?_
    refine blk_ret ?_
    refine then_ret ?_
    refine ret_tmp (j := 6) (by kernel_rfl) hA (by decide) rfl ?_
    refine ⟨congrArg (fun x : Int => Ending.returned (.int .u64 x)) ?_, HB⟩
    unfold readZ
    rw [hm]
    have e := eq_of_beq c26
    subst e
    rfl
  refine W_test hA rfl (by decide) (by decide) rfl rfl (fun c27 a hA => ?_) (fun c27 a hA => ?_)
  · skip
    refine wp_seq ?_
    refine wp_region_list ?_
    refine W_val hA rfl 136 rfl (by decide) _ _ (R_fa hA rfl rfl (fun w => fa_hart _ 14 45 (by decide) rfl w) _) (fun a hA => ?_)
    refine W_val hA rfl 137 rfl (by decide) _ _ (R_ld hA rfl rfl ag_u64 (HH.u 45 (by decide) (by decide))) (fun a hA => ?_)
    refine W_val hA rfl 6 rfl (by decide) _ _ (R_asg hA rfl rfl _) (fun a hA => ?_)
    refine W_nil ?_
    refine then_nrm ?_
    show Code.wp Try.prog _ _ _ _
    refine wp_ret ?_
    refine blk_ret ?_
    refine then_ret ?_
    refine ret_tmp (j := 6) (by kernel_rfl) hA (by decide) rfl ?_
    refine ⟨congrArg (fun x : Int => Ending.returned (.int .u64 x)) ?_, HB⟩
    unfold readZ
    rw [hm]
    have e := eq_of_beq c27
    subst e
    rfl
  refine W_test hA rfl (by decide) (by decide) rfl rfl (fun c28 a hA => ?_) (fun c28 a hA => ?_)
  · skip
    refine wp_seq ?_
    refine wp_region_list ?_
    refine W_val hA rfl 140 rfl (by decide) _ _ (R_fa hA rfl rfl (fun w => fa_hart _ 15 46 (by decide) rfl w) _) (fun a hA => ?_)
    refine W_val hA rfl 141 rfl (by decide) _ _ (R_ld hA rfl rfl ag_u64 (HH.u 46 (by decide) (by decide))) (fun a hA => ?_)
    refine W_val hA rfl 6 rfl (by decide) _ _ (R_asg hA rfl rfl _) (fun a hA => ?_)
    refine W_nil ?_
    refine then_nrm ?_
    show Code.wp Try.prog _ _ _ _
    refine wp_ret ?_
    refine blk_ret ?_
    refine then_ret ?_
    refine ret_tmp (j := 6) (by kernel_rfl) hA (by decide) rfl ?_
    refine ⟨congrArg (fun x : Int => Ending.returned (.int .u64 x)) ?_, HB⟩
    unfold readZ
    rw [hm]
    have e := eq_of_beq c28
    subst e
    rfl
  refine W_test hA rfl (by decide) (by decide) rfl rfl (fun c29 a hA => ?_) (fun c29 a hA => ?_)
  · skip
    refine wp_seq ?_
    refine wp_region_list ?_
    refine W_val hA rfl 144 rfl (by decide) _ _ (R_fa hA rfl rfl (fun w => fa_hart _ 16 47 (by decide) rfl w) _) (fun a hA => ?_)
    refine W_val hA rfl 145 rfl (by decide) _ _ (R_ld hA rfl rfl ag_u64 (HH.u 47 (by decide) (by decide))) (fun a hA => ?_)
    refine W_val hA rfl 6 rfl (by decide) _ _ (R_asg hA rfl rfl _) (fun a hA => ?_)
    refine W_nil ?_
    refine then_nrm ?_
    show Code.wp Try.prog _ _ _ _
    refine wp_ret ?_
    refine blk_ret ?_
    refine then_ret ?_
    refine ret_tmp (j := 6) (by kernel_rfl) hA (by decide) rfl ?_
    refine ⟨congrArg (fun x : Int => Ending.returned (.int .u64 x)) ?_, HB⟩
    unfold readZ
    rw [hm]
    have e := eq_of_beq c29
    subst e
    rfl
  refine W_test hA rfl (by decide) (by decide) rfl rfl (fun c30 a hA => ?_) (fun c30 a hA => ?_)
  · skip
    refine wp_seq ?_
    refine wp_region_list ?_
    refine W_val hA rfl 148 rfl (by decide) _ _ (R_fa hA rfl rfl (fun w => fa_hart _ 17 48 (by decide) rfl w) _) (fun a hA => ?_)
    refine W_val hA rfl 149 rfl (by decide) _ _ (R_ld hA rfl rfl ag_u64 (HH.u 48 (by decide) (by decide))) (fun a hA => ?_)
    refine W_val hA rfl 6 rfl (by decide) _ _ (R_asg hA rfl rfl _) (fun a hA => ?_)
    refine W_nil ?_
    refine then_nrm ?_
    show Code.wp Try.prog _ _ _ _
    refine wp_ret ?_
    refine blk_ret ?_
    refine then_ret ?_
    refine ret_tmp (j := 6) (by kernel_rfl) hA (by decide) rfl ?_
    refine ⟨congrArg (fun x : Int => Ending.returned (.int .u64 x)) ?_, HB⟩
    unfold readZ
    rw [hm]
    have e := eq_of_beq c30
    subst e
    rfl
  refine W_test hA rfl (by decide) (by decide) rfl rfl (fun c31 a hA => ?_) (fun c31 a hA => ?_)
  · skip
    refine wp_seq ?_
    refine wp_region_list ?_
    refine W_val hA rfl 152 rfl (by decide) _ _ (R_row hA rfl rfl HH Try.underlying25 (size_hart.trans (by rw [varr_size]))) (fun a hA => ?_)
    refine W_val hA rfl 153 rfl (by decide) _ _ (R_row hA rfl rfl LL Try.underlying27 (by kernel_rfl)) (fun a hA => ?_)
    refine W_call2 hA (by decide) (fun _ _ => by kernel_rfl) rfl rfl (dpend_any _ ok _ lk _) (fun w8 hw a hA => ?_)
    replace HB := HB.trans (hw.mono HB.size)
    replace HH := HH.below hw
    replace LL := LL.below hw
    clear hw
    refine W_val hA rfl 6 rfl (by decide) _ _ (R_asg hA rfl rfl _) (fun a hA => ?_)
    refine W_nil ?_
    refine then_nrm ?_
    show Code.wp Try.prog _ _ _ _
    refine wp_ret ?_
    refine blk_ret ?_
    refine then_ret ?_
    refine ret_tmp (j := 6) (by kernel_rfl) hA (by decide) rfl ?_
    refine ⟨congrArg (fun x : Int => Ending.returned (.int .u64 x)) ?_, HB⟩
    unfold readZ
    rw [hm]
    have e := eq_of_beq c31
    subst e
    rfl
  refine W_test hA rfl (by decide) (by decide) rfl rfl (fun c32 a hA => ?_) (fun c32 a hA => ?_)
  · skip
    refine wp_seq ?_
    refine wp_region_list ?_
    refine W_val hA rfl 157 rfl (by decide) _ _ (R_fa hA rfl rfl (fun w => fa_hart _ 19 50 (by decide) rfl w) _) (fun a hA => ?_)
    refine W_val hA rfl 158 rfl (by decide) _ _ (R_ld hA rfl rfl ag_u64 (HH.u 50 (by decide) (by decide))) (fun a hA => ?_)
    refine W_val hA rfl 6 rfl (by decide) _ _ (R_asg hA rfl rfl _) (fun a hA => ?_)
    refine W_nil ?_
    refine then_nrm ?_
    show Code.wp Try.prog _ _ _ _
    refine wp_ret ?_
    refine blk_ret ?_
    refine then_ret ?_
    refine ret_tmp (j := 6) (by kernel_rfl) hA (by decide) rfl ?_
    refine ⟨congrArg (fun x : Int => Ending.returned (.int .u64 x)) ?_, HB⟩
    unfold readZ
    rw [hm]
    have e := eq_of_beq c32
    subst e
    rfl
  refine W_test hA rfl (by decide) (by decide) rfl rfl (fun c33 a hA => ?_) (fun c33 a hA => ?_)
  · skip
    refine wp_seq ?_
    refine wp_region_list ?_
    refine W_val hA rfl 161 rfl (by decide) _ _ (R_fa hA rfl rfl (fun w => fa_hart _ 18 49 (by decide) rfl w) _) (fun a hA => ?_)
    refine W_val hA rfl 162 rfl (by decide) _ _ (R_ld hA rfl rfl ag_u64 (HH.u 49 (by decide) (by decide))) (fun a hA => ?_)
    refine W_val hA rfl 6 rfl (by decide) _ _ (R_asg hA rfl rfl _) (fun a hA => ?_)
    refine W_nil ?_
    refine then_nrm ?_
    show Code.wp Try.prog _ _ _ _
    refine wp_ret ?_
    refine blk_ret ?_
    refine then_ret ?_
    refine ret_tmp (j := 6) (by kernel_rfl) hA (by decide) rfl ?_
    refine ⟨congrArg (fun x : Int => Ending.returned (.int .u64 x)) ?_, HB⟩
    unfold readZ
    rw [hm]
    have e := eq_of_beq c33
    subst e
    rfl
  refine W_test hA rfl (by decide) (by decide) rfl rfl (fun c34 a hA => ?_) (fun c34 a hA => ?_)
  · skip
    refine wp_seq ?_
    refine wp_region_list ?_
    refine W_val hA rfl 165 rfl (by decide) _ _ (R_fa hA rfl rfl (fun w => fa_hart _ 27 58 (by decide) rfl w) _) (fun a hA => ?_)
    refine W_val hA rfl 166 rfl (by decide) _ _ (R_ld hA rfl rfl ag_u64 (HH.u 58 (by decide) (by decide))) (fun a hA => ?_)
    refine W_val hA rfl 6 rfl (by decide) _ _ (R_asg hA rfl rfl _) (fun a hA => ?_)
    refine W_nil ?_
    refine then_nrm ?_
    show Code.wp Try.prog _ _ _ _
    refine wp_ret ?_
    refine blk_ret ?_
    refine then_ret ?_
    refine ret_tmp (j := 6) (by kernel_rfl) hA (by decide) rfl ?_
    refine ⟨congrArg (fun x : Int => Ending.returned (.int .u64 x)) ?_, HB⟩
    unfold readZ
    rw [hm]
    have e := eq_of_beq c34
    subst e
    rfl
  refine W_test hA rfl (by decide) (by decide) rfl rfl (fun c35 a hA => ?_) (fun c35 a hA => ?_)
  · skip
    refine wp_seq ?_
    refine wp_region_list ?_
    refine W_val hA rfl 169 rfl (by decide) _ _ (R_fa hA rfl rfl (fun w => fa_hart _ 28 59 (by decide) rfl w) _) (fun a hA => ?_)
    refine W_val hA rfl 170 rfl (by decide) _ _ (R_ld hA rfl rfl ag_u64 (HH.u 59 (by decide) (by decide))) (fun a hA => ?_)
    refine W_val hA rfl 6 rfl (by decide) _ _ (R_asg hA rfl rfl _) (fun a hA => ?_)
    refine W_nil ?_
    refine then_nrm ?_
    show Code.wp Try.prog _ _ _ _
    refine wp_ret ?_
    refine blk_ret ?_
    refine then_ret ?_
    refine ret_tmp (j := 6) (by kernel_rfl) hA (by decide) rfl ?_
    refine ⟨congrArg (fun x : Int => Ending.returned (.int .u64 x)) ?_, HB⟩
    unfold readZ
    rw [hm]
    have e := eq_of_beq c35
    subst e
    rfl
  refine W_test hA rfl (by decide) (by decide) rfl rfl (fun c36 a hA => ?_) (fun c36 a hA => ?_)
  · skip
    refine wp_seq ?_
    refine wp_region_list ?_
    refine W_val hA rfl 173 rfl (by decide) _ _ (R_fa hA rfl rfl (fun w => fa_hart _ 29 60 (by decide) rfl w) _) (fun a hA => ?_)
    refine W_val hA rfl 174 rfl (by decide) _ _ (R_ld hA rfl rfl ag_u64 (HH.u 60 (by decide) (by decide))) (fun a hA => ?_)
    refine W_val hA rfl 6 rfl (by decide) _ _ (R_asg hA rfl rfl _) (fun a hA => ?_)
    refine W_nil ?_
    refine then_nrm ?_
    show Code.wp Try.prog _ _ _ _
    refine wp_ret ?_
    refine blk_ret ?_
    refine then_ret ?_
    refine ret_tmp (j := 6) (by kernel_rfl) hA (by decide) rfl ?_
    refine ⟨congrArg (fun x : Int => Ending.returned (.int .u64 x)) ?_, HB⟩
    unfold readZ
    rw [hm]
    have e := eq_of_beq c36
    subst e
    rfl
  refine W_test hA rfl (by decide) (by decide) rfl rfl (fun c37 a hA => ?_) (fun c37 a hA => ?_)
  · skip
    refine wp_seq ?_
    refine wp_region_list ?_
    refine W_val hA rfl 177 rfl (by decide) _ _ (R_fa hA rfl rfl (fun w => fa_hart _ 10 41 (by decide) rfl w) _) (fun a hA => ?_)
    refine W_val hA rfl 178 rfl (by decide) _ _ (R_ld hA rfl rfl ag_u64 (HH.u 41 (by decide) (by decide))) (fun a hA => ?_)
    refine W_val hA rfl 179 rfl (by decide) _ _ (R_and hA rfl rfl rfl _) (fun a hA => ?_)
    refine W_val hA rfl 6 rfl (by decide) _ _ (R_asg hA rfl rfl _) (fun a hA => ?_)
    refine W_nil ?_
    refine then_nrm ?_
    show Code.wp Try.prog _ _ _ _
    refine wp_ret ?_
    refine blk_ret ?_
    refine then_ret ?_
    refine ret_tmp (j := 6) (by kernel_rfl) hA (by decide) rfl ?_
    refine ⟨congrArg (fun x : Int => Ending.returned (.int .u64 x)) ?_, HB⟩
    unfold readZ
    rw [hm]
    have e := eq_of_beq c37
    subst e
    rfl
  refine W_test hA rfl (by decide) (by decide) rfl rfl (fun c38 a hA => ?_) (fun c38 a hA => ?_)
  · skip
    refine wp_seq ?_
    refine wp_region_list ?_
    refine W_val hA rfl 182 rfl (by decide) _ _ (R_fa hA rfl rfl (fun w => fa_hart _ 36 67 (by decide) rfl w) _) (fun a hA => ?_)
    refine W_val hA rfl 183 rfl (by decide) _ _ (R_ld hA rfl rfl ag_u64 (HH.u 67 (by decide) (by decide))) (fun a hA => ?_)
    refine W_val hA rfl 6 rfl (by decide) _ _ (R_asg hA rfl rfl _) (fun a hA => ?_)
    refine W_nil ?_
    refine then_nrm ?_
    show Code.wp Try.prog _ _ _ _
    refine wp_ret ?_
    refine blk_ret ?_
    refine then_ret ?_
    refine ret_tmp (j := 6) (by kernel_rfl) hA (by decide) rfl ?_
    refine ⟨congrArg (fun x : Int => Ending.returned (.int .u64 x)) ?_, HB⟩
    unfold readZ
    rw [hm]
    have e := eq_of_beq c38
    subst e
    rfl
  refine W_test hA rfl (by decide) (by decide) rfl rfl (fun c39 a hA => ?_) (fun c39 a hA => ?_)
  · skip
    refine wp_seq ?_
    refine wp_region_list ?_
    refine W_val hA rfl 186 rfl (by decide) _ _ (R_fa hA rfl rfl (fun w => fa_hart _ 31 62 (by decide) rfl w) _) (fun a hA => ?_)
    refine W_val hA rfl 187 rfl (by decide) _ _ (R_ld hA rfl rfl ag_u64 (HH.u 62 (by decide) (by decide))) (fun a hA => ?_)
    refine W_val hA rfl 6 rfl (by decide) _ _ (R_asg hA rfl rfl _) (fun a hA => ?_)
    refine W_nil ?_
    refine then_nrm ?_
    show Code.wp Try.prog _ _ _ _
    refine wp_ret ?_
    refine blk_ret ?_
    refine then_ret ?_
    refine ret_tmp (j := 6) (by kernel_rfl) hA (by decide) rfl ?_
    refine ⟨congrArg (fun x : Int => Ending.returned (.int .u64 x)) ?_, HB⟩
    unfold readZ
    rw [hm]
    have e := eq_of_beq c39
    subst e
    rfl
  refine W_test hA rfl (by decide) (by decide) rfl rfl (fun c40 a hA => ?_) (fun c40 a hA => ?_)
  · skip
    refine wp_seq ?_
    refine wp_region_list ?_
    refine W_val hA rfl 190 rfl (by decide) _ _ (R_fa hA rfl rfl (fun w => fa_hart _ 32 63 (by decide) rfl w) _) (fun a hA => ?_)
    refine W_val hA rfl 191 rfl (by decide) _ _ (R_ld hA rfl rfl ag_u64 (HH.u 63 (by decide) (by decide))) (fun a hA => ?_)
    refine W_val hA rfl 6 rfl (by decide) _ _ (R_asg hA rfl rfl _) (fun a hA => ?_)
    refine W_nil ?_
    refine then_nrm ?_
    show Code.wp Try.prog _ _ _ _
    refine wp_ret ?_
    refine blk_ret ?_
    refine then_ret ?_
    refine ret_tmp (j := 6) (by kernel_rfl) hA (by decide) rfl ?_
    refine ⟨congrArg (fun x : Int => Ending.returned (.int .u64 x)) ?_, HB⟩
    unfold readZ
    rw [hm]
    have e := eq_of_beq c40
    subst e
    rfl
  refine W_test hA rfl (by decide) (by decide) rfl rfl (fun c41 a hA => ?_) (fun c41 a hA => ?_)
  · skip
    refine wp_seq ?_
    refine wp_region_list ?_
    refine W_val hA rfl 194 rfl (by decide) _ _ (R_fa hA rfl rfl (fun w => fa_hart _ 33 64 (by decide) rfl w) _) (fun a hA => ?_)
    refine W_val hA rfl 195 rfl (by decide) _ _ (R_ld hA rfl rfl ag_u64 (HH.u 64 (by decide) (by decide))) (fun a hA => ?_)
    refine W_val hA rfl 6 rfl (by decide) _ _ (R_asg hA rfl rfl _) (fun a hA => ?_)
    refine W_nil ?_
    refine then_nrm ?_
    show Code.wp Try.prog _ _ _ _
    refine wp_ret ?_
    refine blk_ret ?_
    refine then_ret ?_
    refine ret_tmp (j := 6) (by kernel_rfl) hA (by decide) rfl ?_
    refine ⟨congrArg (fun x : Int => Ending.returned (.int .u64 x)) ?_, HB⟩
    unfold readZ
    rw [hm]
    have e := eq_of_beq c41
    subst e
    rfl
  refine W_test hA rfl (by decide) (by decide) rfl rfl (fun c42 a hA => ?_) (fun c42 a hA => ?_)
  · skip
    refine wp_seq ?_
    refine wp_region_list ?_
    refine W_val hA rfl 198 rfl (by decide) _ _ (R_row hA rfl rfl HH Try.underlying25 (size_hart.trans (by rw [varr_size]))) (fun a hA => ?_)
    refine W_val hA rfl 199 rfl (by decide) _ _ (R_row hA rfl rfl LL Try.underlying27 (by kernel_rfl)) (fun a hA => ?_)
    refine W_call2 hA (by decide) (fun _ _ => by kernel_rfl) rfl rfl (dpend_any _ ok _ lk _) (fun w9 hw a hA => ?_)
    replace HB := HB.trans (hw.mono HB.size)
    replace HH := HH.below hw
    replace LL := LL.below hw
    clear hw
    refine W_val hA rfl 201 rfl (by decide) _ _ (R_and hA rfl rfl rfl _) (fun a hA => ?_)
    refine W_val hA rfl 6 rfl (by decide) _ _ (R_asg hA rfl rfl _) (fun a hA => ?_)
    refine W_nil ?_
    refine then_nrm ?_
    show Code.wp Try.prog _ _ _ _
    refine wp_ret ?_
    refine blk_ret ?_
    refine then_ret ?_
    refine ret_tmp (j := 6) (by kernel_rfl) hA (by decide) rfl ?_
    refine ⟨congrArg (fun x : Int => Ending.returned (.int .u64 x)) ?_, HB⟩
    unfold readZ
    rw [hm]
    have e := eq_of_beq c42
    subst e
    rfl
  refine W_test hA rfl (by decide) (by decide) rfl rfl (fun c43 a hA => ?_) (fun c43 a hA => ?_)
  · skip
    refine wp_seq ?_
    refine wp_region_list ?_
    refine W_val hA rfl 204 rfl (by decide) _ _ (R_fa hA rfl rfl (fun w => fa_hart _ 30 61 (by decide) rfl w) _) (fun a hA => ?_)
    refine W_val hA rfl 205 rfl (by decide) _ _ (R_ld hA rfl rfl ag_u64 (HH.u 61 (by decide) (by decide))) (fun a hA => ?_)
    refine W_val hA rfl 6 rfl (by decide) _ _ (R_asg hA rfl rfl _) (fun a hA => ?_)
    refine W_nil ?_
    refine then_nrm ?_
    show Code.wp Try.prog _ _ _ _
    refine wp_ret ?_
    refine blk_ret ?_
    refine then_ret ?_
    refine ret_tmp (j := 6) (by kernel_rfl) hA (by decide) rfl ?_
    refine ⟨congrArg (fun x : Int => Ending.returned (.int .u64 x)) ?_, HB⟩
    unfold readZ
    rw [hm]
    have e := eq_of_beq c43
    subst e
    rfl
  refine W_test hA rfl (by decide) (by decide) rfl rfl (fun c44 a hA => ?_) (fun c44 a hA => ?_)
  · skip
    refine wp_seq ?_
    refine wp_region_list ?_
    refine W_val hA rfl 208 rfl (by decide) _ _ (R_fa hA rfl rfl (fun w => fa_hart _ 34 65 (by decide) rfl w) _) (fun a hA => ?_)
    refine W_val hA rfl 209 rfl (by decide) _ _ (R_ld hA rfl rfl ag_u64 (HH.u 65 (by decide) (by decide))) (fun a hA => ?_)
    refine W_val hA rfl 6 rfl (by decide) _ _ (R_asg hA rfl rfl _) (fun a hA => ?_)
    refine W_nil ?_
    refine then_nrm ?_
    show Code.wp Try.prog _ _ _ _
    refine wp_ret ?_
    refine blk_ret ?_
    refine then_ret ?_
    refine ret_tmp (j := 6) (by kernel_rfl) hA (by decide) rfl ?_
    refine ⟨congrArg (fun x : Int => Ending.returned (.int .u64 x)) ?_, HB⟩
    unfold readZ
    rw [hm]
    have e := eq_of_beq c44
    subst e
    rfl
  refine W_test hA rfl (by decide) (by decide) rfl rfl (fun c45 a hA => ?_) (fun c45 a hA => ?_)
  · skip
    refine wp_seq ?_
    refine wp_region_list ?_
    refine W_val hA rfl 212 rfl (by decide) _ _ (R_fa hA rfl rfl (fun w => fa_hart _ 35 66 (by decide) rfl w) _) (fun a hA => ?_)
    refine W_val hA rfl 213 rfl (by decide) _ _ (R_ld hA rfl rfl ag_u64 (HH.u 66 (by decide) (by decide))) (fun a hA => ?_)
    refine W_val hA rfl 6 rfl (by decide) _ _ (R_asg hA rfl rfl _) (fun a hA => ?_)
    refine W_nil ?_
    refine then_nrm ?_
    show Code.wp Try.prog _ _ _ _
    refine wp_ret ?_
    refine blk_ret ?_
    refine then_ret ?_
    refine ret_tmp (j := 6) (by kernel_rfl) hA (by decide) rfl ?_
    refine ⟨congrArg (fun x : Int => Ending.returned (.int .u64 x)) ?_, HB⟩
    unfold readZ
    rw [hm]
    have e := eq_of_beq c45
    subst e
    rfl
  refine W_tests hA (sets_more rfl (by decide) (by decide) rfl rfl (sets_one rfl (by decide) (by decide) rfl rfl)) (fun c46 a hA => ?_) (fun c46 a hA => ?_)
  · skip
    refine wp_seq ?_
    refine wp_region_list ?_
    refine W_val hA rfl 217 rfl (by decide) _ _ (R_fa hA rfl rfl (fun w => fa_hart _ 44 75 (by decide) rfl w) _) (fun a hA => ?_)
    refine W_val hA rfl 218 rfl (by decide) _ _ (R_ld hA rfl rfl ag_u64 (HH.u 75 (by decide) (by decide))) (fun a hA => ?_)
    refine W_val hA rfl 6 rfl (by decide) _ _ (R_asg hA rfl rfl _) (fun a hA => ?_)
    refine W_nil ?_
    refine then_nrm ?_
    show Code.wp Try.prog _ _ _ _
    refine wp_ret ?_
    refine blk_ret ?_
    refine then_ret ?_
    refine ret_tmp (j := 6) (by kernel_rfl) hA (by decide) rfl ?_
    refine ⟨congrArg (fun x : Int => Ending.returned (.int .u64 x)) ?_, HB⟩
    unfold readZ
    rw [hm]
    have e : m = 2816 ∨ m = 3072 := by simpa using c46
    rcases e with e | e
    all_goals
      subst e
      rfl
  refine W_tests hA (sets_more rfl (by decide) (by decide) rfl rfl (sets_one rfl (by decide) (by decide) rfl rfl)) (fun c47 a hA => ?_) (fun c47 a hA => ?_)
  · skip
    refine wp_seq ?_
    refine wp_region_list ?_
    refine W_val hA rfl 222 rfl (by decide) _ _ (R_fa hA rfl rfl (fun w => fa_hart _ 45 76 (by decide) rfl w) _) (fun a hA => ?_)
    refine W_val hA rfl 223 rfl (by decide) _ _ (R_ld hA rfl rfl ag_u64 (HH.u 76 (by decide) (by decide))) (fun a hA => ?_)
    refine W_val hA rfl 6 rfl (by decide) _ _ (R_asg hA rfl rfl _) (fun a hA => ?_)
    refine W_nil ?_
    refine then_nrm ?_
    show Code.wp Try.prog _ _ _ _
    refine wp_ret ?_
    refine blk_ret ?_
    refine then_ret ?_
    refine ret_tmp (j := 6) (by kernel_rfl) hA (by decide) rfl ?_
    refine ⟨congrArg (fun x : Int => Ending.returned (.int .u64 x)) ?_, HB⟩
    unfold readZ
    rw [hm]
    have e : m = 2818 ∨ m = 3074 := by simpa using c47
    rcases e with e | e
    all_goals
      subst e
      rfl
  refine W_test hA rfl (by decide) (by decide) rfl rfl (fun c48 a hA => ?_) (fun c48 a hA => ?_)
  · skip
    refine wp_seq ?_
    refine wp_seq ?_
    refine wp_region_list ?_
    refine W_val hA rfl 226 rfl (by decide) _ _ (R_fa hA rfl rfl (fun w => fa_hart _ 3 34 (by decide) rfl w) _) (fun a hA => ?_)
    refine W_val hA rfl 227 rfl (by decide) _ _ (R_ld hA rfl rfl ag_bool HH.v) (fun a hA => ?_)
    refine W_nil ?_
    refine then_nrm ?_
    show Code.wp Try.prog _ _ _ _
    refine wp_cond_split (hA.ev (x := .tmp 227) rfl) (fun c49 => ?_) (fun c49 => ?_)
    · skip
      refine wp_seq ?_
      refine wp_region_list ?_
      refine W_val hA rfl 228 rfl (by decide) _ _ (R_fa hA rfl rfl (fun w => fa_lines _ 5 (by decide) w) _) (fun a hA => ?_)
      refine W_val hA rfl 229 rfl (by decide) _ _ (R_ld hA rfl rfl ag_u64 (LL.c5)) (fun a hA => ?_)
      refine W_val hA rfl 230 rfl (by decide) _ _ (R_fa hA rfl rfl (fun w => fa_hart _ 36 67 (by decide) rfl w) _) (fun a hA => ?_)
      refine W_val hA rfl 231 rfl (by decide) _ _ (R_ld hA rfl rfl ag_u64 (HH.u 67 (by decide) (by decide))) (fun a hA => ?_)
      refine W_val hA rfl 232 rfl (by decide) _ _ (R_add hA rfl rfl rfl _) (fun a hA => ?_)
      refine W_val hA rfl 6 rfl (by decide) _ _ (R_asg hA rfl rfl _) (fun a hA => ?_)
      refine W_nil ?_
      refine then_nrm ?_
      show Code.wp Try.prog _ _ _ _
      refine wp_ret ?_
      refine then_ret ?_
      refine blk_ret ?_
      refine then_ret ?_
      refine ret_tmp (j := 6) (by kernel_rfl) hA (by decide) rfl ?_
      refine ⟨congrArg (fun x : Int => Ending.returned (.int .u64 x)) ?_, HB⟩
      unfold readZ
      rw [hm]
      have e := eq_of_beq c48
      subst e
      show _ = (if t.v = true then IntKind.u64.wrap (l.tm + t.n 67) else l.tm)
      rw [c49]; rfl
    refine wp_skip ?_
    refine then_nrm ?_
    show Code.wp Try.prog _ _ _ _
    refine wp_seq ?_
    refine wp_region_list ?_
    refine W_val hA rfl 233 rfl (by decide) _ _ (R_fa hA rfl rfl (fun w => fa_lines _ 5 (by decide) w) _) (fun a hA => ?_)
    refine W_val hA rfl 234 rfl (by decide) _ _ (R_ld hA rfl rfl ag_u64 (LL.c5)) (fun a hA => ?_)
    refine W_val hA rfl 6 rfl (by decide) _ _ (R_asg hA rfl rfl _) (fun a hA => ?_)
    refine W_nil ?_
    refine then_nrm ?_
    show Code.wp Try.prog _ _ _ _
    refine wp_ret ?_
    refine blk_ret ?_
    refine then_ret ?_
    refine ret_tmp (j := 6) (by kernel_rfl) hA (by decide) rfl ?_
    refine ⟨congrArg (fun x : Int => Ending.returned (.int .u64 x)) ?_, HB⟩
    unfold readZ
    rw [hm]
    have e := eq_of_beq c48
    subst e
    show _ = (if t.v = true then IntKind.u64.wrap (l.tm + t.n 67) else l.tm)
    rw [c49]; rfl
  refine W_test hA rfl (by decide) (by decide) rfl rfl (fun c50 a hA => ?_) (fun c50 a hA => ?_)
  · skip
    refine wp_seq ?_
    refine wp_region_list ?_
    refine W_val hA rfl 237 rfl (by decide) _ _ (R_fa hA rfl rfl (fun w => fa_lines _ 4 (by decide) w) _) (fun a hA => ?_)
    refine W_val hA rfl 238 rfl (by decide) _ _ (R_ld hA rfl rfl ag_u64 (LL.c4)) (fun a hA => ?_)
    refine W_val hA rfl 239 rfl (by decide) _ _ (R_and hA rfl rfl rfl _) (fun a hA => ?_)
    refine W_val hA rfl 6 rfl (by decide) _ _ (R_asg hA rfl rfl _) (fun a hA => ?_)
    refine W_nil ?_
    refine then_nrm ?_
    show Code.wp Try.prog _ _ _ _
    refine wp_ret ?_
    refine blk_ret ?_
    refine then_ret ?_
    refine ret_tmp (j := 6) (by kernel_rfl) hA (by decide) rfl ?_
    refine ⟨congrArg (fun x : Int => Ending.returned (.int .u64 x)) ?_, HB⟩
    unfold readZ
    rw [hm]
    have e := eq_of_beq c50
    subst e
    rfl
  refine wp_skip ?_
  refine blk_nrm ?_
  refine then_nrm ?_
  show Code.wp Try.prog _ _ _ _
  refine wp_seq ?_
  refine wp_region_list ?_
  refine W_val hA rfl 6 rfl (by decide) _ _ (R_asg hA rfl rfl _) (fun a hA => ?_)
  refine W_nil ?_
  refine then_nrm ?_
  show Code.wp Try.prog _ _ _ _
  refine wp_ret ?_
  refine ret_tmp (j := 6) (by kernel_rfl) hA (by decide) rfl ?_
  refine ⟨congrArg (fun x : Int => Ending.returned (.int .u64 x)) ?_, HB⟩
  unfold readZ
  rw [hm]
  have dc1 : ¬ m = 256 := beq_eq_false_iff_ne.1 c1
  have dc2 : ¬ m = 260 := beq_eq_false_iff_ne.1 c2
  have dc3 : ¬ m = 261 := beq_eq_false_iff_ne.1 c3
  have dc4 : ¬ m = 262 := beq_eq_false_iff_ne.1 c4
  have dc5 : ¬ m = 320 := beq_eq_false_iff_ne.1 c5
  have dc6 : ¬ m = 321 := beq_eq_false_iff_ne.1 c6
  have dc7 : ¬ m = 322 := beq_eq_false_iff_ne.1 c7
  have dc8 : ¬ m = 323 := beq_eq_false_iff_ne.1 c8
  have dc9 : ¬ m = 324 := beq_eq_false_iff_ne.1 c9
  have dc10 : ¬ m = 384 := beq_eq_false_iff_ne.1 c10
  have dc11 : ¬ m = 512 := beq_eq_false_iff_ne.1 c11
  have dc12 : ¬ m = 516 := beq_eq_false_iff_ne.1 c12
  have dc13 : ¬ m = 517 := beq_eq_false_iff_ne.1 c13
  have dc14 : ¬ m = 576 := beq_eq_false_iff_ne.1 c14
  have dc15 : ¬ m = 577 := beq_eq_false_iff_ne.1 c15
  have dc16 : ¬ m = 578 := beq_eq_false_iff_ne.1 c16
  have dc17 : ¬ m = 579 := beq_eq_false_iff_ne.1 c17
  have dc18 : ¬ m = 580 := beq_eq_false_iff_ne.1 c18
  have dc19 : ¬ m = 640 := beq_eq_false_iff_ne.1 c19
  have dc20 : ¬ m = 768 := beq_eq_false_iff_ne.1 c20
  have dc21 : ¬ m = 769 := beq_eq_false_iff_ne.1 c21
  have dc22 : ¬ m = 770 := beq_eq_false_iff_ne.1 c22
  have dc23 : ¬ m = 771 := beq_eq_false_iff_ne.1 c23
  have dc24 : ¬ m = 772 := beq_eq_false_iff_ne.1 c24
  have dc25 : ¬ m = 773 := beq_eq_false_iff_ne.1 c25
  have dc26 : ¬ m = 774 := beq_eq_false_iff_ne.1 c26
  have dc27 : ¬ m = 832 := beq_eq_false_iff_ne.1 c27
  have dc28 : ¬ m = 833 := beq_eq_false_iff_ne.1 c28
  have dc29 : ¬ m = 834 := beq_eq_false_iff_ne.1 c29
  have dc30 : ¬ m = 835 := beq_eq_false_iff_ne.1 c30
  have dc31 : ¬ m = 836 := beq_eq_false_iff_ne.1 c31
  have dc32 : ¬ m = 842 := beq_eq_false_iff_ne.1 c32
  have dc33 : ¬ m = 843 := beq_eq_false_iff_ne.1 c33
  have dc34 : ¬ m = 1536 := beq_eq_false_iff_ne.1 c34
  have dc35 : ¬ m = 1538 := beq_eq_false_iff_ne.1 c35
  have dc36 : ¬ m = 1539 := beq_eq_false_iff_ne.1 c36
  have dc37 : ¬ m = 1540 := beq_eq_false_iff_ne.1 c37
  have dc38 : ¬ m = 1541 := beq_eq_false_iff_ne.1 c38
  have dc39 : ¬ m = 1542 := beq_eq_false_iff_ne.1 c39
  have dc40 : ¬ m = 1543 := beq_eq_false_iff_ne.1 c40
  have dc41 : ¬ m = 1603 := beq_eq_false_iff_ne.1 c41
  have dc42 : ¬ m = 1604 := beq_eq_false_iff_ne.1 c42
  have dc43 : ¬ m = 1605 := beq_eq_false_iff_ne.1 c43
  have dc44 : ¬ m = 1610 := beq_eq_false_iff_ne.1 c44
  have dc45 : ¬ m = 1664 := beq_eq_false_iff_ne.1 c45
  have dc46 : ¬ m = 2816 ∧ ¬ m = 3072 := by simpa using c46
  have dc47 : ¬ m = 2818 ∧ ¬ m = 3074 := by simpa using c47
  have dc48 : ¬ m = 3073 := beq_eq_false_iff_ne.1 c48
  have dc50 : ¬ m = 3602 := beq_eq_false_iff_ne.1 c50
  exact (readM_none t l ⟨dc1, dc2, dc3, dc4, dc5, dc6, dc7, dc8, dc9, dc10, dc11, dc12, dc13, dc14, dc15, dc16, dc17, dc18, dc19, dc20, dc21, dc22, dc23, dc24, dc25, dc26, dc27, dc28, dc29, dc30, dc31, dc32, dc33, dc34, dc35, dc36, dc37, dc38, dc39, dc40, dc41, dc42, dc43, dc44, dc45, dc46.1, dc46.2, dc47.1, dc47.2, dc48, dc50, trivial⟩).symm
end Go.Proofs.Ytiblfdgmleckiaa
