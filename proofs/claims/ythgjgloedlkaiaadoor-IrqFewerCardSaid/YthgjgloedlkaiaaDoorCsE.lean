/- Layer 12: what is pending (written by gen_cse.py by walkf.py). -/
import Derived.Test.YthgjgloedlkaiaaDoorCsB
import Derived.Test.YthgjgloedlkaiaaDoorCsD
namespace Go.Proofs.YthgjgloedlkaiaaDoor
open Go.RowKit
set_option linter.unusedVariables false
set_option maxRecDepth 100000

theorem bit12 {x : Int} (hx : In64 x) (k : Nat) : (bits .and .u64 (x / 2 ^ k) 1 == 1) = bitZ x k := has_bit hx k
theorem bit1_ne (x : Int) : (bits .and .u64 x 2 != 0) = bitZ x 1 := by
  have := and_bit (x := x) 1 (by omega)
  rw [show (2 : Int) ^ 1 = 2 from rfl] at this
  rw [bne, this, Bool.not_not]
set_option maxHeartbeats 4000000 in
theorem pend_any (t : HS) (ok : HOk t) (l : LS) (w : World) : Calls Tryd.prog 14 #[hartV t, linesV l] w fun e w' => e = .returned (.int .u64 (pendZ t l)) ∧ Below w.heap.size w w' := by
  have h0 := (ok.n 58).1
  have HB := Below.refl w.heap.size w
  go_enter Tryd.func14, Tryd.ntmps14
  refine begin_fr [(1, linesV l), (0, hartV t)] 49 ?_ (fun a hA => ?_)
  · exact FrA.add (FrA.add (FrA.nil (by rfl) (by rfl)) 0 _ (by rfl)) 1 _ (by rfl)
  refine wp_seq ?_
  refine wp_region_list ?_
  refine W_boxH hA rfl 2 rfl (by decide) rfl rfl (fun w1 bHH a hA hb HH gHH => ?_)
  replace gHH := Nat.le_trans HB.size gHH
  replace HB := HB.trans (hb.mono HB.size)
  clear hb
  refine W_boxL hA rfl 3 rfl (by decide) rfl rfl (fun w2 bLL a hA hb LL gLL => ?_)
  have nHHLL : bHH < bLL := by have := HH.lt; omega
  replace HH := HH.below hb
  replace gLL := Nat.le_trans HB.size gLL
  replace HB := HB.trans (hb.mono HB.size)
  clear hb
  refine W_val hA rfl 4 rfl (by decide) _ _ (R_asg hA rfl rfl _) (fun a hA => ?_)
  refine W_nil ?_
  refine then_nrm ?_
  show Code.wp Tryd.prog _ _ _ _
  refine wp_seq ?_
  refine wp_region_list ?_
  refine W_val hA rfl 6 rfl (by decide) _ _ (R_fa hA rfl rfl (fun w => fa_hart _ 27 58 (by decide) rfl w) _) (fun a hA => ?_)
  refine W_val hA rfl 7 rfl (by decide) _ _ (R_ld hA rfl rfl ag_u64 (HH.u 58 (by decide) (by decide))) (fun a hA => ?_)
  refine W_val hA rfl 8 rfl (by decide) _ _ (R_shrN hA rfl 12 rfl (by first | exact (and_in _ _).1 | exact h0) (by decide) rfl _) (fun a hA => ?_)
  refine W_val hA rfl 9 rfl (by decide) _ _ (R_and hA rfl rfl rfl _) (fun a hA => ?_)
  refine W_val hA rfl 10 rfl (by decide) _ _ (R_eqlU hA rfl rfl rfl _) (fun a hA => ?_)
  refine W_val hA rfl 11 rfl (by decide) _ _ (R_mov hA rfl rfl _) (fun a hA => ?_)
  refine W_split hA 11 rfl (fun c1 hA => ?_) (fun c1 hA => ?_)
  · skip
    refine W_gval hA rfl rfl rfl 12 rfl (by decide) _ _ (R_fa hA rfl rfl (fun w => fa_lines _ 4 (by decide) w) _) (fun a hA => ?_)
    refine W_gval hA rfl rfl rfl 13 rfl (by decide) _ _ (R_ld hA rfl rfl ag_u64 (LL.c4)) (fun a hA => ?_)
    refine W_gval hA rfl rfl rfl 14 rfl (by decide) _ _ (R_and hA rfl rfl rfl _) (fun a hA => ?_)
    refine W_gval hA rfl rfl rfl 15 rfl (by decide) _ _ (R_neqU hA rfl rfl rfl _) (fun a hA => ?_)
    refine W_val hA rfl 16 rfl (by decide) _ _ (R_pick hA rfl rfl rfl _) (fun a hA => ?_)
    refine W_val hA rfl 5 rfl (by decide) _ _ (R_asg hA rfl rfl _) (fun a hA => ?_)
    refine W_nil ?_
    refine then_nrm ?_
    show Code.wp Tryd.prog _ _ _ _
    refine wp_seq ?_
    refine wp_region_held_drew (S := fun wx => Below w2.heap.size w2 wx) (by kernel_rfl) ((Below.refl _ _).drew) (fun hS => ?_)
    refine takeF (i := 0) hA 17 rfl rfl (by decide) rfl (by kernel_rfl) (by kernel_rfl) (by kernel_rfl) (fun _ _ _ h => h) hS (fun wx hx => R_fa hA rfl rfl (fun w => fa_hart _ 11 42 (by decide) rfl w) _) (fun a hA => ?_)
    refine takeF (i := 1) hA 18 rfl rfl (by decide) rfl (by kernel_rfl) (by kernel_rfl) (by kernel_rfl) (fun _ _ _ h => h) hS (fun wx hx => R_ld hA rfl rfl ag_u64 ((HH.below hx).u 42 (by decide) (by decide))) (fun a hA => ?_)
    refine takeF (i := 2) hA 19 rfl rfl (by decide) rfl (by kernel_rfl) (by kernel_rfl) (by kernel_rfl) (fun _ _ _ h => h) hS (fun wx hx => R_fa hA rfl rfl (fun w => fa_hart _ 30 61 (by decide) rfl w) _) (fun a hA => ?_)
    refine takeF (i := 3) hA 20 rfl rfl (by decide) rfl (by kernel_rfl) (by kernel_rfl) (by kernel_rfl) (fun _ _ _ h => h) hS (fun wx hx => R_ld hA rfl rfl ag_u64 ((HH.below hx).u 61 (by decide) (by decide))) (fun a hA => ?_)
    refine takeF (i := 4) hA 21 rfl rfl (by decide) rfl (by kernel_rfl) (by kernel_rfl) (by kernel_rfl) (fun _ _ _ h => h) hS (fun wx hx => R_or hA rfl rfl rfl _) (fun a hA => ?_)
    refine takeF (i := 5) hA 22 rfl rfl (by decide) rfl (by kernel_rfl) (by kernel_rfl) (by kernel_rfl) (fun _ _ _ h => h) hS (fun wx hx => R_fa hA rfl rfl (fun w => fa_lines _ 0 (by decide) w) _) (fun a hA => ?_)
    refine takeF (i := 6) hA 23 rfl rfl (by decide) rfl (by kernel_rfl) (by kernel_rfl) (by kernel_rfl) (fun _ _ _ h => h) hS (fun wx hx => R_ld hA rfl rfl ag_bool ((LL.below hx).c0)) (fun a hA => ?_)
    refine takeF (i := 9) hA 26 rfl rfl (by decide) rfl (by kernel_rfl) (by kernel_rfl) (by kernel_rfl) (fun _ _ _ h => h) hS (fun wx hx => R_fa hA rfl rfl (fun w => fa_lines _ 1 (by decide) w) _) (fun a hA => ?_)
    refine takeF (i := 10) hA 27 rfl rfl (by decide) rfl (by kernel_rfl) (by kernel_rfl) (by kernel_rfl) (fun _ _ _ h => h) hS (fun wx hx => R_ld hA rfl rfl ag_bool ((LL.below hx).c1)) (fun a hA => ?_)
    refine takeF (i := 13) hA 30 rfl rfl (by decide) rfl (by kernel_rfl) (by kernel_rfl) (by kernel_rfl) (fun _ _ _ h => h) hS (fun wx hx => R_fa hA rfl rfl (fun w => fa_lines _ 2 (by decide) w) _) (fun a hA => ?_)
    refine takeF (i := 14) hA 31 rfl rfl (by decide) rfl (by kernel_rfl) (by kernel_rfl) (by kernel_rfl) (fun _ _ _ h => h) hS (fun wx hx => R_ld hA rfl rfl ag_bool ((LL.below hx).c2)) (fun a hA => ?_)
    refine takeF (i := 17) hA 34 rfl rfl (by decide) rfl (by kernel_rfl) (by kernel_rfl) (by kernel_rfl) (fun _ _ _ h => h) hS (fun wx hx => R_fa hA rfl rfl (fun w => fa_lines _ 3 (by decide) w) _) (fun a hA => ?_)
    refine takeF (i := 18) hA 35 rfl rfl (by decide) rfl (by kernel_rfl) (by kernel_rfl) (by kernel_rfl) (fun _ _ _ h => h) hS (fun wx hx => R_ld hA rfl rfl ag_bool ((LL.below hx).c3)) (fun a hA => ?_)
    refine takeF (i := 21) hA 38 rfl rfl (by decide) rfl (by kernel_rfl) (by kernel_rfl) (by kernel_rfl) (fun _ _ _ h => h) hS (fun wx hx => R_mov hA rfl rfl _) (fun a hA => ?_)
    refine takeF (i := 24) hA 41 rfl rfl (by decide) rfl (by kernel_rfl) (by kernel_rfl) (by kernel_rfl) (fun _ _ _ h => h) hS (fun wx hx => R_fa hA rfl rfl (fun w => fa_lines _ 4 (by decide) w) _) (fun a hA => ?_)
    refine takeF (i := 25) hA 42 rfl rfl (by decide) rfl (by kernel_rfl) (by kernel_rfl) (by kernel_rfl) (fun _ _ _ h => h) hS (fun wx hx => R_ld hA rfl rfl ag_u64 ((LL.below hx).c4)) (fun a hA => ?_)
    refine takeF (i := 26) hA 43 rfl rfl (by decide) rfl (by kernel_rfl) (by kernel_rfl) (by kernel_rfl) (fun _ _ _ h => h) hS (fun wx hx => R_fa hA rfl rfl (fun w => fa_hart _ 32 63 (by decide) rfl w) _) (fun a hA => ?_)
    refine takeF (i := 27) hA 44 rfl rfl (by decide) rfl (by kernel_rfl) (by kernel_rfl) (by kernel_rfl) (fun _ _ _ h => h) hS (fun wx hx => R_ld hA rfl rfl ag_u64 ((HH.below hx).u 63 (by decide) (by decide))) (fun a hA => ?_)
    refine takeF (i := 28) hA 45 rfl rfl (by decide) rfl (by kernel_rfl) (by kernel_rfl) (by kernel_rfl) (fun _ _ _ h => h) hS (fun wx hx => R_and hA rfl rfl rfl _) (fun a hA => ?_)
    refine takeF (i := 29) hA 46 rfl rfl (by decide) rfl (by kernel_rfl) (by kernel_rfl) (by kernel_rfl) (fun _ _ _ h => h) hS (fun wx hx => R_neqU hA rfl rfl rfl _) (fun a hA => ?_)
    refine wpAnyH_ready (rs := [7]) (by kernel_rfl) (by simp) ?_
    refine ready_call (i := 7) hA (by decide) rfl (fun _ _ => by kernel_rfl) (args2 hA rfl rfl) (when_3 _ _) (fun _ h => h ▸ hS) (fun w3 hw a hA => ?_) ?_
    · skip
      subst hw
      refine takeF (i := 8) hA 25 rfl rfl (by decide) rfl (by kernel_rfl) (by kernel_rfl) (by kernel_rfl) (fun _ _ _ h => h) hS (fun wx hx => R_or hA rfl rfl rfl _) (fun a hA => ?_)
      refine wpAnyH_ready (rs := [11]) (by kernel_rfl) (by simp) ?_
      refine ready_call (i := 11) hA (by decide) rfl (fun _ _ => by kernel_rfl) (args2 hA rfl rfl) (when_7 _ _) (fun _ h => h ▸ hS) (fun w4 hw a hA => ?_) ?_
      · skip
        subst hw
        refine takeF (i := 12) hA 29 rfl rfl (by decide) rfl (by kernel_rfl) (by kernel_rfl) (by kernel_rfl) (fun _ _ _ h => h) hS (fun wx hx => R_or hA rfl rfl rfl _) (fun a hA => ?_)
        refine wpAnyH_ready (rs := [15]) (by kernel_rfl) (by simp) ?_
        refine ready_call (i := 15) hA (by decide) rfl (fun _ _ => by kernel_rfl) (args2 hA rfl rfl) (when_11 _ _) (fun _ h => h ▸ hS) (fun w5 hw a hA => ?_) ?_
        · skip
          subst hw
          refine takeF (i := 16) hA 33 rfl rfl (by decide) rfl (by kernel_rfl) (by kernel_rfl) (by kernel_rfl) (fun _ _ _ h => h) hS (fun wx hx => R_or hA rfl rfl rfl _) (fun a hA => ?_)
          refine wpAnyH_ready (rs := [19]) (by kernel_rfl) (by simp) ?_
          refine ready_call (i := 19) hA (by decide) rfl (fun _ _ => by kernel_rfl) (args2 hA rfl rfl) (when_9 _ _) (fun _ h => h ▸ hS) (fun w6 hw a hA => ?_) ?_
          · skip
            subst hw
            refine takeF (i := 20) hA 37 rfl rfl (by decide) rfl (by kernel_rfl) (by kernel_rfl) (by kernel_rfl) (fun _ _ _ h => h) hS (fun wx hx => R_or hA rfl rfl rfl _) (fun a hA => ?_)
            refine wpAnyH_ready (rs := [22]) (by kernel_rfl) (by simp) ?_
            refine ready_call (i := 22) hA (by decide) rfl (fun _ _ => by kernel_rfl) (args2 hA rfl rfl) (when_10 _ _) (fun _ h => h ▸ hS) (fun w7 hw a hA => ?_) ?_
            · skip
              subst hw
              refine takeF (i := 23) hA 40 rfl rfl (by decide) rfl (by kernel_rfl) (by kernel_rfl) (by kernel_rfl) (fun _ _ _ h => h) hS (fun wx hx => R_or hA rfl rfl rfl _) (fun a hA => ?_)
              refine wpAnyH_ready (rs := [30]) (by kernel_rfl) (by simp) ?_
              refine ready_call (i := 30) hA (by decide) rfl (fun _ _ => by kernel_rfl) (args2 hA rfl rfl) (when_12 _ _) (fun _ h => h ▸ hS) (fun w8 hw a hA => ?_) ?_
              · skip
                subst hw
                refine takeF (i := 31) hA 48 rfl rfl (by decide) rfl (by kernel_rfl) (by kernel_rfl) (by kernel_rfl) (fun _ _ _ h => h) hS (fun wx hx => R_or hA rfl rfl rfl _) (fun a hA => ?_)
                refine takeF (i := 32) hA 4 rfl rfl (by decide) rfl (by kernel_rfl) (by kernel_rfl) (by kernel_rfl) (fun _ _ _ h => h) hS (fun wx hx => R_asg hA rfl rfl _) (fun a hA => ?_)
                refine wpAnyH_done (by kernel_rfl) ?_ _
                replace HH := HH.below hS
                replace LL := LL.below hS
                replace HB := HB.trans (hS.mono HB.size)
                clear hS
                refine then_nrm ?_
                show Code.wp Tryd.prog _ _ _ _
                refine wp_ret ?_
                refine ret_tmp (j := 4) (by kernel_rfl) hA (by decide) rfl ?_
                refine ⟨congrArg (fun x : Int => Ending.returned (.int .u64 x)) ?_, HB⟩
                unfold pendZ
                rw [bit12 (ok.n 58) 12] at c1
                rw [c1, ← bit1_ne]
                rfl
              exact AllReadyH.nil
            exact AllReadyH.nil
          exact AllReadyH.nil
        exact AllReadyH.nil
      exact AllReadyH.nil
    exact AllReadyH.nil
  refine W_gskip hA rfl rfl rfl 12 rfl (by decide) (fun a hA => ?_)
  refine W_gskip hA rfl rfl rfl 13 rfl (by decide) (fun a hA => ?_)
  refine W_gskip hA rfl rfl rfl 14 rfl (by decide) (fun a hA => ?_)
  refine W_gskip hA rfl rfl rfl 15 rfl (by decide) (fun a hA => ?_)
  refine W_val hA rfl 16 rfl (by decide) _ _ (R_pick hA rfl rfl rfl _) (fun a hA => ?_)
  refine W_val hA rfl 5 rfl (by decide) _ _ (R_asg hA rfl rfl _) (fun a hA => ?_)
  refine W_nil ?_
  refine then_nrm ?_
  show Code.wp Tryd.prog _ _ _ _
  refine wp_seq ?_
  refine wp_region_held_drew (S := fun wx => Below w2.heap.size w2 wx) (by kernel_rfl) ((Below.refl _ _).drew) (fun hS => ?_)
  refine takeF (i := 0) hA 17 rfl rfl (by decide) rfl (by kernel_rfl) (by kernel_rfl) (by kernel_rfl) (fun _ _ _ h => h) hS (fun wx hx => R_fa hA rfl rfl (fun w => fa_hart _ 11 42 (by decide) rfl w) _) (fun a hA => ?_)
  refine takeF (i := 1) hA 18 rfl rfl (by decide) rfl (by kernel_rfl) (by kernel_rfl) (by kernel_rfl) (fun _ _ _ h => h) hS (fun wx hx => R_ld hA rfl rfl ag_u64 ((HH.below hx).u 42 (by decide) (by decide))) (fun a hA => ?_)
  refine takeF (i := 2) hA 19 rfl rfl (by decide) rfl (by kernel_rfl) (by kernel_rfl) (by kernel_rfl) (fun _ _ _ h => h) hS (fun wx hx => R_fa hA rfl rfl (fun w => fa_hart _ 30 61 (by decide) rfl w) _) (fun a hA => ?_)
  refine takeF (i := 3) hA 20 rfl rfl (by decide) rfl (by kernel_rfl) (by kernel_rfl) (by kernel_rfl) (fun _ _ _ h => h) hS (fun wx hx => R_ld hA rfl rfl ag_u64 ((HH.below hx).u 61 (by decide) (by decide))) (fun a hA => ?_)
  refine takeF (i := 4) hA 21 rfl rfl (by decide) rfl (by kernel_rfl) (by kernel_rfl) (by kernel_rfl) (fun _ _ _ h => h) hS (fun wx hx => R_or hA rfl rfl rfl _) (fun a hA => ?_)
  refine takeF (i := 5) hA 22 rfl rfl (by decide) rfl (by kernel_rfl) (by kernel_rfl) (by kernel_rfl) (fun _ _ _ h => h) hS (fun wx hx => R_fa hA rfl rfl (fun w => fa_lines _ 0 (by decide) w) _) (fun a hA => ?_)
  refine takeF (i := 6) hA 23 rfl rfl (by decide) rfl (by kernel_rfl) (by kernel_rfl) (by kernel_rfl) (fun _ _ _ h => h) hS (fun wx hx => R_ld hA rfl rfl ag_bool ((LL.below hx).c0)) (fun a hA => ?_)
  refine takeF (i := 9) hA 26 rfl rfl (by decide) rfl (by kernel_rfl) (by kernel_rfl) (by kernel_rfl) (fun _ _ _ h => h) hS (fun wx hx => R_fa hA rfl rfl (fun w => fa_lines _ 1 (by decide) w) _) (fun a hA => ?_)
  refine takeF (i := 10) hA 27 rfl rfl (by decide) rfl (by kernel_rfl) (by kernel_rfl) (by kernel_rfl) (fun _ _ _ h => h) hS (fun wx hx => R_ld hA rfl rfl ag_bool ((LL.below hx).c1)) (fun a hA => ?_)
  refine takeF (i := 13) hA 30 rfl rfl (by decide) rfl (by kernel_rfl) (by kernel_rfl) (by kernel_rfl) (fun _ _ _ h => h) hS (fun wx hx => R_fa hA rfl rfl (fun w => fa_lines _ 2 (by decide) w) _) (fun a hA => ?_)
  refine takeF (i := 14) hA 31 rfl rfl (by decide) rfl (by kernel_rfl) (by kernel_rfl) (by kernel_rfl) (fun _ _ _ h => h) hS (fun wx hx => R_ld hA rfl rfl ag_bool ((LL.below hx).c2)) (fun a hA => ?_)
  refine takeF (i := 17) hA 34 rfl rfl (by decide) rfl (by kernel_rfl) (by kernel_rfl) (by kernel_rfl) (fun _ _ _ h => h) hS (fun wx hx => R_fa hA rfl rfl (fun w => fa_lines _ 3 (by decide) w) _) (fun a hA => ?_)
  refine takeF (i := 18) hA 35 rfl rfl (by decide) rfl (by kernel_rfl) (by kernel_rfl) (by kernel_rfl) (fun _ _ _ h => h) hS (fun wx hx => R_ld hA rfl rfl ag_bool ((LL.below hx).c3)) (fun a hA => ?_)
  refine takeF (i := 21) hA 38 rfl rfl (by decide) rfl (by kernel_rfl) (by kernel_rfl) (by kernel_rfl) (fun _ _ _ h => h) hS (fun wx hx => R_mov hA rfl rfl _) (fun a hA => ?_)
  refine takeF (i := 24) hA 41 rfl rfl (by decide) rfl (by kernel_rfl) (by kernel_rfl) (by kernel_rfl) (fun _ _ _ h => h) hS (fun wx hx => R_fa hA rfl rfl (fun w => fa_lines _ 4 (by decide) w) _) (fun a hA => ?_)
  refine takeF (i := 25) hA 42 rfl rfl (by decide) rfl (by kernel_rfl) (by kernel_rfl) (by kernel_rfl) (fun _ _ _ h => h) hS (fun wx hx => R_ld hA rfl rfl ag_u64 ((LL.below hx).c4)) (fun a hA => ?_)
  refine takeF (i := 26) hA 43 rfl rfl (by decide) rfl (by kernel_rfl) (by kernel_rfl) (by kernel_rfl) (fun _ _ _ h => h) hS (fun wx hx => R_fa hA rfl rfl (fun w => fa_hart _ 32 63 (by decide) rfl w) _) (fun a hA => ?_)
  refine takeF (i := 27) hA 44 rfl rfl (by decide) rfl (by kernel_rfl) (by kernel_rfl) (by kernel_rfl) (fun _ _ _ h => h) hS (fun wx hx => R_ld hA rfl rfl ag_u64 ((HH.below hx).u 63 (by decide) (by decide))) (fun a hA => ?_)
  refine takeF (i := 28) hA 45 rfl rfl (by decide) rfl (by kernel_rfl) (by kernel_rfl) (by kernel_rfl) (fun _ _ _ h => h) hS (fun wx hx => R_and hA rfl rfl rfl _) (fun a hA => ?_)
  refine takeF (i := 29) hA 46 rfl rfl (by decide) rfl (by kernel_rfl) (by kernel_rfl) (by kernel_rfl) (fun _ _ _ h => h) hS (fun wx hx => R_neqU hA rfl rfl rfl _) (fun a hA => ?_)
  refine wpAnyH_ready (rs := [7]) (by kernel_rfl) (by simp) ?_
  refine ready_call (i := 7) hA (by decide) rfl (fun _ _ => by kernel_rfl) (args2 hA rfl rfl) (when_3 _ _) (fun _ h => h ▸ hS) (fun w10 hw a hA => ?_) ?_
  · skip
    subst hw
    refine takeF (i := 8) hA 25 rfl rfl (by decide) rfl (by kernel_rfl) (by kernel_rfl) (by kernel_rfl) (fun _ _ _ h => h) hS (fun wx hx => R_or hA rfl rfl rfl _) (fun a hA => ?_)
    refine wpAnyH_ready (rs := [11]) (by kernel_rfl) (by simp) ?_
    refine ready_call (i := 11) hA (by decide) rfl (fun _ _ => by kernel_rfl) (args2 hA rfl rfl) (when_7 _ _) (fun _ h => h ▸ hS) (fun w11 hw a hA => ?_) ?_
    · skip
      subst hw
      refine takeF (i := 12) hA 29 rfl rfl (by decide) rfl (by kernel_rfl) (by kernel_rfl) (by kernel_rfl) (fun _ _ _ h => h) hS (fun wx hx => R_or hA rfl rfl rfl _) (fun a hA => ?_)
      refine wpAnyH_ready (rs := [15]) (by kernel_rfl) (by simp) ?_
      refine ready_call (i := 15) hA (by decide) rfl (fun _ _ => by kernel_rfl) (args2 hA rfl rfl) (when_11 _ _) (fun _ h => h ▸ hS) (fun w12 hw a hA => ?_) ?_
      · skip
        subst hw
        refine takeF (i := 16) hA 33 rfl rfl (by decide) rfl (by kernel_rfl) (by kernel_rfl) (by kernel_rfl) (fun _ _ _ h => h) hS (fun wx hx => R_or hA rfl rfl rfl _) (fun a hA => ?_)
        refine wpAnyH_ready (rs := [19]) (by kernel_rfl) (by simp) ?_
        refine ready_call (i := 19) hA (by decide) rfl (fun _ _ => by kernel_rfl) (args2 hA rfl rfl) (when_9 _ _) (fun _ h => h ▸ hS) (fun w13 hw a hA => ?_) ?_
        · skip
          subst hw
          refine takeF (i := 20) hA 37 rfl rfl (by decide) rfl (by kernel_rfl) (by kernel_rfl) (by kernel_rfl) (fun _ _ _ h => h) hS (fun wx hx => R_or hA rfl rfl rfl _) (fun a hA => ?_)
          refine wpAnyH_ready (rs := [22]) (by kernel_rfl) (by simp) ?_
          refine ready_call (i := 22) hA (by decide) rfl (fun _ _ => by kernel_rfl) (args2 hA rfl rfl) (when_10 _ _) (fun _ h => h ▸ hS) (fun w14 hw a hA => ?_) ?_
          · skip
            subst hw
            refine takeF (i := 23) hA 40 rfl rfl (by decide) rfl (by kernel_rfl) (by kernel_rfl) (by kernel_rfl) (fun _ _ _ h => h) hS (fun wx hx => R_or hA rfl rfl rfl _) (fun a hA => ?_)
            refine wpAnyH_ready (rs := [30]) (by kernel_rfl) (by simp) ?_
            refine ready_call (i := 30) hA (by decide) rfl (fun _ _ => by kernel_rfl) (args2 hA rfl rfl) (when_12 _ _) (fun _ h => h ▸ hS) (fun w15 hw a hA => ?_) ?_
            · skip
              subst hw
              refine takeF (i := 31) hA 48 rfl rfl (by decide) rfl (by kernel_rfl) (by kernel_rfl) (by kernel_rfl) (fun _ _ _ h => h) hS (fun wx hx => R_or hA rfl rfl rfl _) (fun a hA => ?_)
              refine takeF (i := 32) hA 4 rfl rfl (by decide) rfl (by kernel_rfl) (by kernel_rfl) (by kernel_rfl) (fun _ _ _ h => h) hS (fun wx hx => R_asg hA rfl rfl _) (fun a hA => ?_)
              refine wpAnyH_done (by kernel_rfl) ?_ _
              replace HH := HH.below hS
              replace LL := LL.below hS
              replace HB := HB.trans (hS.mono HB.size)
              clear hS
              refine then_nrm ?_
              show Code.wp Tryd.prog _ _ _ _
              refine wp_ret ?_
              refine ret_tmp (j := 4) (by kernel_rfl) hA (by decide) rfl ?_
              refine ⟨congrArg (fun x : Int => Ending.returned (.int .u64 x)) ?_, HB⟩
              unfold pendZ
              rw [bit12 (ok.n 58) 12] at c1
              rw [c1, ← bit1_ne]
              rfl
            exact AllReadyH.nil
          exact AllReadyH.nil
        exact AllReadyH.nil
      exact AllReadyH.nil
    exact AllReadyH.nil
  exact AllReadyH.nil
set_option maxHeartbeats 4000000 in
theorem dpend_any (t : HS) (ok : HOk t) (l : LS) (lk : LOk l) (w : World) : Calls Tryd.prog 15 #[hartV t, linesV l] w fun e w' => e = .returned (.int .u64 (pendZ t l)) ∧ Below w.heap.size w w' := by
  have HB := Below.refl w.heap.size w
  go_enter Tryd.func15, Tryd.ntmps15
  refine begin_fr [(1, linesV l), (0, hartV t)] 46 ?_ (fun a hA => ?_)
  · exact FrA.add (FrA.add (FrA.nil (by rfl) (by rfl)) 0 _ (by rfl)) 1 _ (by rfl)
  refine wp_seq ?_
  refine wp_region_list ?_
  refine W_boxH hA rfl 2 rfl (by decide) rfl rfl (fun w1 bHH a hA hb HH gHH => ?_)
  replace gHH := Nat.le_trans HB.size gHH
  replace HB := HB.trans (hb.mono HB.size)
  clear hb
  refine W_boxL hA rfl 3 rfl (by decide) rfl rfl (fun w2 bLL a hA hb LL gLL => ?_)
  have nHHLL : bHH < bLL := by have := HH.lt; omega
  replace HH := HH.below hb
  replace gLL := Nat.le_trans HB.size gLL
  replace HB := HB.trans (hb.mono HB.size)
  clear hb
  refine W_val hA rfl 4 rfl (by decide) _ _ (R_asg hA rfl rfl _) (fun a hA => ?_)
  refine W_nil ?_
  refine then_nrm ?_
  show Code.wp Tryd.prog _ _ _ _
  refine wp_seq ?_
  refine wp_region_list ?_
  refine W_val hA rfl 6 rfl (by decide) _ _ (R_fa hA rfl rfl (fun w => fa_hart _ 11 42 (by decide) rfl w) _) (fun a hA => ?_)
  refine W_val hA rfl 7 rfl (by decide) _ _ (R_ld hA rfl rfl ag_u64 (HH.u 42 (by decide) (by decide))) (fun a hA => ?_)
  refine W_val hA rfl 8 rfl (by decide) _ _ (R_fa hA rfl rfl (fun w => fa_hart _ 30 61 (by decide) rfl w) _) (fun a hA => ?_)
  refine W_val hA rfl 9 rfl (by decide) _ _ (R_ld hA rfl rfl ag_u64 (HH.u 61 (by decide) (by decide))) (fun a hA => ?_)
  refine W_val hA rfl 10 rfl (by decide) _ _ (R_or hA rfl rfl rfl _) (fun a hA => ?_)
  refine W_val hA rfl 5 rfl (by decide) _ _ (R_asg hA rfl rfl _) (fun a hA => ?_)
  refine W_nil ?_
  refine then_nrm ?_
  show Code.wp Tryd.prog _ _ _ _
  refine wp_seq ?_
  refine wp_seq ?_
  refine wp_region_list ?_
  refine W_val hA rfl 11 rfl (by decide) _ _ (R_fa hA rfl rfl (fun w => fa_lines _ 0 (by decide) w) _) (fun a hA => ?_)
  refine W_val hA rfl 12 rfl (by decide) _ _ (R_ld hA rfl rfl ag_bool (LL.c0)) (fun a hA => ?_)
  refine W_nil ?_
  refine then_nrm ?_
  show Code.wp Tryd.prog _ _ _ _
  refine wp_cond_merge (fun a' w' => FrA [(5, .int .u64 (bits .or .u64 (bits .or .u64 (t.n 42) (t.n 61)) (whenZ l.ms 8))), (3, .pointer (some ⟨bLL, 0, none⟩)), (2, .pointer (some ⟨bHH, 0, none⟩))] 46 a' ∧ w2 = w') (hA.ev (x := .tmp 12) rfl) (fun c => ?_) (fun c => ?_) ?_
  · skip
    refine wp_region_list ?_
    refine W_val hA rfl 13 rfl (by decide) _ _ (R_mov hA rfl rfl _) (fun a hA => ?_)
    refine W_val hA rfl 14 rfl (by decide) _ _ (R_or hA rfl rfl rfl _) (fun a hA => ?_)
    refine W_val hA rfl 5 rfl (by decide) _ _ (R_asg hA rfl rfl _) (fun a hA => ?_)
    refine W_nil ?_
    refine then_nrm ?_
    exact ⟨FrA.add (FrA.add (FrA.add (FrA.nil hA.sz hA.df) 2 _ (hA.get 2 _ rfl)) 3 _ (hA.get 3 _ rfl)) 5 _ ((hA.get 5 _ rfl).trans (congrArg (fun x : Int => Value.int .u64 x) (by rw [show l.ms = true from c]; rfl))), rfl⟩
  · skip
    refine wp_skip ?_
    refine then_nrm ?_
    exact ⟨FrA.add (FrA.add (FrA.add (FrA.nil hA.sz hA.df) 2 _ (hA.get 2 _ rfl)) 3 _ (hA.get 3 _ rfl)) 5 _ ((hA.get 5 _ rfl).trans (congrArg (fun x : Int => Value.int .u64 x) (by rw [show l.ms = false from c]; exact (or_zero (or_in _ _)).symm))), rfl⟩
  rintro a w' ⟨hA, rfl⟩
  show Code.wp Tryd.prog _ _ _ _
  refine wp_seq ?_
  refine wp_seq ?_
  refine wp_region_list ?_
  refine W_val hA rfl 15 rfl (by decide) _ _ (R_fa hA rfl rfl (fun w => fa_lines _ 1 (by decide) w) _) (fun a hA => ?_)
  refine W_val hA rfl 16 rfl (by decide) _ _ (R_ld hA rfl rfl ag_bool (LL.c1)) (fun a hA => ?_)
  refine W_nil ?_
  refine then_nrm ?_
  show Code.wp Tryd.prog _ _ _ _
  refine wp_cond_merge (fun a' w' => FrA [(5, .int .u64 (bits .or .u64 (bits .or .u64 (bits .or .u64 (t.n 42) (t.n 61)) (whenZ l.ms 8)) (whenZ l.mt 128))), (3, .pointer (some ⟨bLL, 0, none⟩)), (2, .pointer (some ⟨bHH, 0, none⟩))] 46 a' ∧ w2 = w') (hA.ev (x := .tmp 16) rfl) (fun c => ?_) (fun c => ?_) ?_
  · skip
    refine wp_region_list ?_
    refine W_val hA rfl 17 rfl (by decide) _ _ (R_mov hA rfl rfl _) (fun a hA => ?_)
    refine W_val hA rfl 18 rfl (by decide) _ _ (R_or hA rfl rfl rfl _) (fun a hA => ?_)
    refine W_val hA rfl 5 rfl (by decide) _ _ (R_asg hA rfl rfl _) (fun a hA => ?_)
    refine W_nil ?_
    refine then_nrm ?_
    exact ⟨FrA.add (FrA.add (FrA.add (FrA.nil hA.sz hA.df) 2 _ (hA.get 2 _ rfl)) 3 _ (hA.get 3 _ rfl)) 5 _ ((hA.get 5 _ rfl).trans (congrArg (fun x : Int => Value.int .u64 x) (by rw [show l.mt = true from c]; rfl))), rfl⟩
  · skip
    refine wp_skip ?_
    refine then_nrm ?_
    exact ⟨FrA.add (FrA.add (FrA.add (FrA.nil hA.sz hA.df) 2 _ (hA.get 2 _ rfl)) 3 _ (hA.get 3 _ rfl)) 5 _ ((hA.get 5 _ rfl).trans (congrArg (fun x : Int => Value.int .u64 x) (by rw [show l.mt = false from c]; exact (or_zero (or_in _ _)).symm))), rfl⟩
  rintro a w' ⟨hA, rfl⟩
  show Code.wp Tryd.prog _ _ _ _
  refine wp_seq ?_
  refine wp_seq ?_
  refine wp_region_list ?_
  refine W_val hA rfl 19 rfl (by decide) _ _ (R_fa hA rfl rfl (fun w => fa_lines _ 2 (by decide) w) _) (fun a hA => ?_)
  refine W_val hA rfl 20 rfl (by decide) _ _ (R_ld hA rfl rfl ag_bool (LL.c2)) (fun a hA => ?_)
  refine W_nil ?_
  refine then_nrm ?_
  show Code.wp Tryd.prog _ _ _ _
  refine wp_cond_merge (fun a' w' => FrA [(5, .int .u64 (bits .or .u64 (bits .or .u64 (bits .or .u64 (bits .or .u64 (t.n 42) (t.n 61)) (whenZ l.ms 8)) (whenZ l.mt 128)) (whenZ l.me 2048))), (3, .pointer (some ⟨bLL, 0, none⟩)), (2, .pointer (some ⟨bHH, 0, none⟩))] 46 a' ∧ w2 = w') (hA.ev (x := .tmp 20) rfl) (fun c => ?_) (fun c => ?_) ?_
  · skip
    refine wp_region_list ?_
    refine W_val hA rfl 21 rfl (by decide) _ _ (R_mov hA rfl rfl _) (fun a hA => ?_)
    refine W_val hA rfl 22 rfl (by decide) _ _ (R_or hA rfl rfl rfl _) (fun a hA => ?_)
    refine W_val hA rfl 5 rfl (by decide) _ _ (R_asg hA rfl rfl _) (fun a hA => ?_)
    refine W_nil ?_
    refine then_nrm ?_
    exact ⟨FrA.add (FrA.add (FrA.add (FrA.nil hA.sz hA.df) 2 _ (hA.get 2 _ rfl)) 3 _ (hA.get 3 _ rfl)) 5 _ ((hA.get 5 _ rfl).trans (congrArg (fun x : Int => Value.int .u64 x) (by rw [show l.me = true from c]; rfl))), rfl⟩
  · skip
    refine wp_skip ?_
    refine then_nrm ?_
    exact ⟨FrA.add (FrA.add (FrA.add (FrA.nil hA.sz hA.df) 2 _ (hA.get 2 _ rfl)) 3 _ (hA.get 3 _ rfl)) 5 _ ((hA.get 5 _ rfl).trans (congrArg (fun x : Int => Value.int .u64 x) (by rw [show l.me = false from c]; exact (or_zero (or_in _ _)).symm))), rfl⟩
  rintro a w' ⟨hA, rfl⟩
  show Code.wp Tryd.prog _ _ _ _
  refine wp_seq ?_
  refine wp_seq ?_
  refine wp_region_list ?_
  refine W_val hA rfl 23 rfl (by decide) _ _ (R_fa hA rfl rfl (fun w => fa_lines _ 3 (by decide) w) _) (fun a hA => ?_)
  refine W_val hA rfl 24 rfl (by decide) _ _ (R_ld hA rfl rfl ag_bool (LL.c3)) (fun a hA => ?_)
  refine W_nil ?_
  refine then_nrm ?_
  show Code.wp Tryd.prog _ _ _ _
  refine wp_cond_merge (fun a' w' => FrA [(5, .int .u64 (bits .or .u64 (bits .or .u64 (bits .or .u64 (bits .or .u64 (bits .or .u64 (t.n 42) (t.n 61)) (whenZ l.ms 8)) (whenZ l.mt 128)) (whenZ l.me 2048)) (whenZ l.se 512))), (3, .pointer (some ⟨bLL, 0, none⟩)), (2, .pointer (some ⟨bHH, 0, none⟩))] 46 a' ∧ w2 = w') (hA.ev (x := .tmp 24) rfl) (fun c => ?_) (fun c => ?_) ?_
  · skip
    refine wp_region_list ?_
    refine W_val hA rfl 25 rfl (by decide) _ _ (R_mov hA rfl rfl _) (fun a hA => ?_)
    refine W_val hA rfl 26 rfl (by decide) _ _ (R_or hA rfl rfl rfl _) (fun a hA => ?_)
    refine W_val hA rfl 5 rfl (by decide) _ _ (R_asg hA rfl rfl _) (fun a hA => ?_)
    refine W_nil ?_
    refine then_nrm ?_
    exact ⟨FrA.add (FrA.add (FrA.add (FrA.nil hA.sz hA.df) 2 _ (hA.get 2 _ rfl)) 3 _ (hA.get 3 _ rfl)) 5 _ ((hA.get 5 _ rfl).trans (congrArg (fun x : Int => Value.int .u64 x) (by rw [show l.se = true from c]; rfl))), rfl⟩
  · skip
    refine wp_skip ?_
    refine then_nrm ?_
    exact ⟨FrA.add (FrA.add (FrA.add (FrA.nil hA.sz hA.df) 2 _ (hA.get 2 _ rfl)) 3 _ (hA.get 3 _ rfl)) 5 _ ((hA.get 5 _ rfl).trans (congrArg (fun x : Int => Value.int .u64 x) (by rw [show l.se = false from c]; exact (or_zero (or_in _ _)).symm))), rfl⟩
  rintro a w' ⟨hA, rfl⟩
  show Code.wp Tryd.prog _ _ _ _
  refine wp_seq ?_
  refine wp_seq ?_
  refine wp_region_list ?_
  refine W_val hA rfl 27 rfl (by decide) _ _ (R_fa hA rfl rfl (fun w => fa_hart _ 27 58 (by decide) rfl w) _) (fun a hA => ?_)
  refine W_val hA rfl 28 rfl (by decide) _ _ (R_ld hA rfl rfl ag_u64 (HH.u 58 (by decide) (by decide))) (fun a hA => ?_)
  refine W_call2 hA (by decide) (fun _ _ => by kernel_rfl) rfl rfl (dbit_at _ 12 (by omega) _ rfl (by first | exact ok.n _ | exact lk.g) _) (fun w3 hw a hA => ?_)
  subst hw
  refine W_val hA rfl 30 rfl (by decide) _ _ (R_mov hA rfl rfl _) (fun a hA => ?_)
  refine W_split hA 30 rfl (fun c1 hA => ?_) (fun c1 hA => ?_)
  · skip
    refine W_gval hA rfl rfl rfl 31 rfl (by decide) _ _ (R_fa hA rfl rfl (fun w => fa_lines _ 4 (by decide) w) _) (fun a hA => ?_)
    refine W_gval hA rfl rfl rfl 32 rfl (by decide) _ _ (R_ld hA rfl rfl ag_u64 (LL.c4)) (fun a hA => ?_)
    refine W_gcall hA rfl rfl (by decide) (fun _ _ => by kernel_rfl) (args2 hA rfl rfl) (dbit_at _ 1 (by omega) _ rfl (by first | exact ok.n _ | exact lk.g) _) (fun w4 hw a hA => ?_)
    subst hw
    refine W_val hA rfl 34 rfl (by decide) _ _ (R_pick hA rfl rfl rfl _) (fun a hA => ?_)
    refine W_nil ?_
    refine then_nrm ?_
    show Code.wp Tryd.prog _ _ _ _
    refine wp_cond_merge (fun a' w' => FrA [(5, .int .u64 (bits .or .u64 (bits .or .u64 (bits .or .u64 (bits .or .u64 (bits .or .u64 (bits .or .u64 (t.n 42) (t.n 61)) (whenZ l.ms 8)) (whenZ l.mt 128)) (whenZ l.me 2048)) (whenZ l.se 512)) (whenZ (bitZ (t.n 58) 12 && bitZ l.g 1) 1024))), (3, .pointer (some ⟨bLL, 0, none⟩)), (2, .pointer (some ⟨bHH, 0, none⟩))] 46 a' ∧ w2 = w') (hA.ev (x := .tmp 34) rfl) (fun c => ?_) (fun c => ?_) ?_
    · skip
      refine wp_region_list ?_
      refine W_val hA rfl 35 rfl (by decide) _ _ (R_mov hA rfl rfl _) (fun a hA => ?_)
      refine W_val hA rfl 36 rfl (by decide) _ _ (R_or hA rfl rfl rfl _) (fun a hA => ?_)
      refine W_val hA rfl 5 rfl (by decide) _ _ (R_asg hA rfl rfl _) (fun a hA => ?_)
      refine W_nil ?_
      refine then_nrm ?_
      exact ⟨FrA.add (FrA.add (FrA.add (FrA.nil hA.sz hA.df) 2 _ (hA.get 2 _ rfl)) 3 _ (hA.get 3 _ rfl)) 5 _ ((hA.get 5 _ rfl).trans (congrArg (fun x : Int => Value.int .u64 x) (by rw [show (bitZ (t.n 58) 12 && bitZ l.g 1) = true by rw [c1, Bool.true_and]; exact c]; rfl))), rfl⟩
    · skip
      refine wp_skip ?_
      refine then_nrm ?_
      exact ⟨FrA.add (FrA.add (FrA.add (FrA.nil hA.sz hA.df) 2 _ (hA.get 2 _ rfl)) 3 _ (hA.get 3 _ rfl)) 5 _ ((hA.get 5 _ rfl).trans (congrArg (fun x : Int => Value.int .u64 x) (by rw [show (bitZ (t.n 58) 12 && bitZ l.g 1) = false by rw [c1, Bool.true_and]; exact c]; exact (or_zero (or_in _ _)).symm))), rfl⟩
    rintro a w' ⟨hA, rfl⟩
    show Code.wp Tryd.prog _ _ _ _
    refine wp_seq ?_
    refine wp_seq ?_
    refine wp_region_list ?_
    refine W_val hA rfl 37 rfl (by decide) _ _ (R_fa hA rfl rfl (fun w => fa_lines _ 4 (by decide) w) _) (fun a hA => ?_)
    refine W_val hA rfl 38 rfl (by decide) _ _ (R_ld hA rfl rfl ag_u64 (LL.c4)) (fun a hA => ?_)
    refine W_val hA rfl 39 rfl (by decide) _ _ (R_fa hA rfl rfl (fun w => fa_hart _ 32 63 (by decide) rfl w) _) (fun a hA => ?_)
    refine W_val hA rfl 40 rfl (by decide) _ _ (R_ld hA rfl rfl ag_u64 (HH.u 63 (by decide) (by decide))) (fun a hA => ?_)
    refine W_val hA rfl 41 rfl (by decide) _ _ (R_and hA rfl rfl rfl _) (fun a hA => ?_)
    refine W_val hA rfl 42 rfl (by decide) _ _ (R_neqU hA rfl rfl rfl _) (fun a hA => ?_)
    refine W_nil ?_
    refine then_nrm ?_
    show Code.wp Tryd.prog _ _ _ _
    refine wp_cond_merge (fun a' w' => FrA [(5, .int .u64 (bits .or .u64 (bits .or .u64 (bits .or .u64 (bits .or .u64 (bits .or .u64 (bits .or .u64 (bits .or .u64 (t.n 42) (t.n 61)) (whenZ l.ms 8)) (whenZ l.mt 128)) (whenZ l.me 2048)) (whenZ l.se 512)) (whenZ (bitZ (t.n 58) 12 && bitZ l.g 1) 1024)) (whenZ (bits .and .u64 l.g (t.n 63) != 0) 4096))), (3, .pointer (some ⟨bLL, 0, none⟩)), (2, .pointer (some ⟨bHH, 0, none⟩))] 46 a' ∧ w2 = w') (hA.ev (x := .tmp 42) rfl) (fun c => ?_) (fun c => ?_) ?_
    · skip
      refine wp_region_list ?_
      refine W_val hA rfl 43 rfl (by decide) _ _ (R_mov hA rfl rfl _) (fun a hA => ?_)
      refine W_val hA rfl 44 rfl (by decide) _ _ (R_or hA rfl rfl rfl _) (fun a hA => ?_)
      refine W_val hA rfl 5 rfl (by decide) _ _ (R_asg hA rfl rfl _) (fun a hA => ?_)
      refine W_nil ?_
      refine then_nrm ?_
      exact ⟨FrA.add (FrA.add (FrA.add (FrA.nil hA.sz hA.df) 2 _ (hA.get 2 _ rfl)) 3 _ (hA.get 3 _ rfl)) 5 _ ((hA.get 5 _ rfl).trans (congrArg (fun x : Int => Value.int .u64 x) (by rw [show (bits .and .u64 l.g (t.n 63) != 0) = true from c]; rfl))), rfl⟩
    · skip
      refine wp_skip ?_
      refine then_nrm ?_
      exact ⟨FrA.add (FrA.add (FrA.add (FrA.nil hA.sz hA.df) 2 _ (hA.get 2 _ rfl)) 3 _ (hA.get 3 _ rfl)) 5 _ ((hA.get 5 _ rfl).trans (congrArg (fun x : Int => Value.int .u64 x) (by rw [show (bits .and .u64 l.g (t.n 63) != 0) = false from c]; exact (or_zero (or_in _ _)).symm))), rfl⟩
    rintro a w' ⟨hA, rfl⟩
    show Code.wp Tryd.prog _ _ _ _
    refine wp_seq ?_
    refine wp_region_list ?_
    refine W_val hA rfl 45 rfl (by decide) _ _ (R_mov hA rfl rfl _) (fun a hA => ?_)
    refine W_val hA rfl 4 rfl (by decide) _ _ (R_asg hA rfl rfl _) (fun a hA => ?_)
    refine W_nil ?_
    refine then_nrm ?_
    show Code.wp Tryd.prog _ _ _ _
    refine wp_ret ?_
    refine ret_tmp (j := 4) (by kernel_rfl) hA (by decide) rfl ?_
    exact ⟨rfl, HB⟩
  refine W_gskip hA rfl rfl rfl 31 rfl (by decide) (fun a hA => ?_)
  refine W_gskip hA rfl rfl rfl 32 rfl (by decide) (fun a hA => ?_)
  refine W_gskip hA rfl rfl rfl 33 rfl (by decide) (fun a hA => ?_)
  refine W_val hA rfl 34 rfl (by decide) _ _ (R_pick hA rfl rfl rfl _) (fun a hA => ?_)
  refine W_nil ?_
  refine then_nrm ?_
  show Code.wp Tryd.prog _ _ _ _
  refine wp_cond_merge (fun a' w' => FrA [(5, .int .u64 (bits .or .u64 (bits .or .u64 (bits .or .u64 (bits .or .u64 (bits .or .u64 (bits .or .u64 (t.n 42) (t.n 61)) (whenZ l.ms 8)) (whenZ l.mt 128)) (whenZ l.me 2048)) (whenZ l.se 512)) (whenZ (bitZ (t.n 58) 12 && bitZ l.g 1) 1024))), (3, .pointer (some ⟨bLL, 0, none⟩)), (2, .pointer (some ⟨bHH, 0, none⟩))] 46 a' ∧ w2 = w') (hA.ev (x := .tmp 34) rfl) (fun c => ?_) (fun c => ?_) ?_
  · skip
    cases c
  · skip
    refine wp_skip ?_
    refine then_nrm ?_
    exact ⟨FrA.add (FrA.add (FrA.add (FrA.nil hA.sz hA.df) 2 _ (hA.get 2 _ rfl)) 3 _ (hA.get 3 _ rfl)) 5 _ ((hA.get 5 _ rfl).trans (congrArg (fun x : Int => Value.int .u64 x) (by rw [show (bitZ (t.n 58) 12 && bitZ l.g 1) = false by rw [c1, Bool.false_and]]; exact (or_zero (or_in _ _)).symm))), rfl⟩
  rintro a w' ⟨hA, rfl⟩
  show Code.wp Tryd.prog _ _ _ _
  refine wp_seq ?_
  refine wp_seq ?_
  refine wp_region_list ?_
  refine W_val hA rfl 37 rfl (by decide) _ _ (R_fa hA rfl rfl (fun w => fa_lines _ 4 (by decide) w) _) (fun a hA => ?_)
  refine W_val hA rfl 38 rfl (by decide) _ _ (R_ld hA rfl rfl ag_u64 (LL.c4)) (fun a hA => ?_)
  refine W_val hA rfl 39 rfl (by decide) _ _ (R_fa hA rfl rfl (fun w => fa_hart _ 32 63 (by decide) rfl w) _) (fun a hA => ?_)
  refine W_val hA rfl 40 rfl (by decide) _ _ (R_ld hA rfl rfl ag_u64 (HH.u 63 (by decide) (by decide))) (fun a hA => ?_)
  refine W_val hA rfl 41 rfl (by decide) _ _ (R_and hA rfl rfl rfl _) (fun a hA => ?_)
  refine W_val hA rfl 42 rfl (by decide) _ _ (R_neqU hA rfl rfl rfl _) (fun a hA => ?_)
  refine W_nil ?_
  refine then_nrm ?_
  show Code.wp Tryd.prog _ _ _ _
  refine wp_cond_merge (fun a' w' => FrA [(5, .int .u64 (bits .or .u64 (bits .or .u64 (bits .or .u64 (bits .or .u64 (bits .or .u64 (bits .or .u64 (bits .or .u64 (t.n 42) (t.n 61)) (whenZ l.ms 8)) (whenZ l.mt 128)) (whenZ l.me 2048)) (whenZ l.se 512)) (whenZ (bitZ (t.n 58) 12 && bitZ l.g 1) 1024)) (whenZ (bits .and .u64 l.g (t.n 63) != 0) 4096))), (3, .pointer (some ⟨bLL, 0, none⟩)), (2, .pointer (some ⟨bHH, 0, none⟩))] 46 a' ∧ w2 = w') (hA.ev (x := .tmp 42) rfl) (fun c => ?_) (fun c => ?_) ?_
  · skip
    refine wp_region_list ?_
    refine W_val hA rfl 43 rfl (by decide) _ _ (R_mov hA rfl rfl _) (fun a hA => ?_)
    refine W_val hA rfl 44 rfl (by decide) _ _ (R_or hA rfl rfl rfl _) (fun a hA => ?_)
    refine W_val hA rfl 5 rfl (by decide) _ _ (R_asg hA rfl rfl _) (fun a hA => ?_)
    refine W_nil ?_
    refine then_nrm ?_
    exact ⟨FrA.add (FrA.add (FrA.add (FrA.nil hA.sz hA.df) 2 _ (hA.get 2 _ rfl)) 3 _ (hA.get 3 _ rfl)) 5 _ ((hA.get 5 _ rfl).trans (congrArg (fun x : Int => Value.int .u64 x) (by rw [show (bits .and .u64 l.g (t.n 63) != 0) = true from c]; rfl))), rfl⟩
  · skip
    refine wp_skip ?_
    refine then_nrm ?_
    exact ⟨FrA.add (FrA.add (FrA.add (FrA.nil hA.sz hA.df) 2 _ (hA.get 2 _ rfl)) 3 _ (hA.get 3 _ rfl)) 5 _ ((hA.get 5 _ rfl).trans (congrArg (fun x : Int => Value.int .u64 x) (by rw [show (bits .and .u64 l.g (t.n 63) != 0) = false from c]; exact (or_zero (or_in _ _)).symm))), rfl⟩
  rintro a w' ⟨hA, rfl⟩
  show Code.wp Tryd.prog _ _ _ _
  refine wp_seq ?_
  refine wp_region_list ?_
  refine W_val hA rfl 45 rfl (by decide) _ _ (R_mov hA rfl rfl _) (fun a hA => ?_)
  refine W_val hA rfl 4 rfl (by decide) _ _ (R_asg hA rfl rfl _) (fun a hA => ?_)
  refine W_nil ?_
  refine then_nrm ?_
  show Code.wp Tryd.prog _ _ _ _
  refine wp_ret ?_
  refine ret_tmp (j := 4) (by kernel_rfl) hA (by decide) rfl ?_
  exact ⟨rfl, HB⟩
end Go.Proofs.YthgjgloedlkaiaaDoor
