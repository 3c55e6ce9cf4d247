/- Layer 15: the walk of PteJudges (written by gen_ptc.py by walkt.py). -/
import Derived.Test.YtflaadnlmcgfoaaRPtC
namespace Go.Proofs.YtflaadnlmcgfoaaR
open Go.RowKit
set_option linter.unusedVariables false
set_option maxRecDepth 100000

set_option maxHeartbeats 8000000 in
theorem pteJudges_walk (x lv : Int) (s : WS) (w : World) (hx : In64 x) (hlv : In63 lv) (sk : WOk s) : Calls Try.prog 6 #[.int .u64 x, .int .i64 lv, wantV s] w fun e w' => e = .returned (.bool true) ∧ Below w.heap.size w w' := by
  have HB := Below.refl w.heap.size w
  go_enter Try.func6, Try.ntmps6
  refine begin_fr [(2, wantV s), (1, .int .i64 lv), (0, .int .u64 x)] 19 ?_ (fun a hA => ?_)
  · exact FrA.add (FrA.add (FrA.add (FrA.nil (by rfl) (by rfl)) 0 _ (by rfl)) 1 _ (by rfl)) 2 _ (by rfl)
  refine wp_seq ?_
  refine wp_region_list ?_
  refine W_boxT (cs := wantC s) hA rfl 5 rfl (by decide) rfl rfl (fun w1 bB5 a hA hb B5 gB5 => ?_)
  replace gB5 := Nat.le_trans HB.size gB5
  replace HB := HB.trans (hb.mono HB.size)
  clear hb
  refine W_val hA rfl 6 rfl (by decide) _ _ (R_asg hA rfl rfl _) (fun a hA => ?_)
  refine W_nil ?_
  refine then_nrm ?_
  show Code.wp Try.prog _ _ _ _
  refine wp_seq ?_
  refine wp_region_held_drew (S := fun wx => Below w1.heap.size w1 wx) (by kernel_rfl) ((Below.refl _ _).drew) (fun hS => ?_)
  refine wpAnyH_ready (rs := [0]) (by kernel_rfl) (by simp) (ready_call (i := 0) hA (by decide) rfl (fun _ _ => by kernel_rfl) (args0 ) (awake_any _) (fun _ h => hS.trans (h.mono hS.size)) (fun w2 hw a hA => ?_) AllReadyH.nil)
  replace hS := hS.trans (hw.mono hS.size)
  clear hw
  refine takeF (i := 1) hA 8 rfl rfl (by decide) rfl (by kernel_rfl) (by kernel_rfl) (by kernel_rfl) (fun _ _ _ h => h) hS (fun wx hwx => R_mov hA rfl rfl _) (fun a hA => ?_)
  refine takeFg (i := 2) hA 9 rfl rfl (by decide) rfl rfl rfl (by kernel_rfl) (by kernel_rfl) (by kernel_rfl) (fun _ _ _ h => h) hS (fun wx hwx => R_mov hA rfl rfl _) (fun a hA => ?_)
  refine takeFg (i := 3) hA 10 rfl rfl (by decide) rfl rfl rfl (by kernel_rfl) (by kernel_rfl) (by kernel_rfl) (fun _ _ _ h => h) hS (fun wx hwx => R_mov hA rfl rfl _) (fun a hA => ?_)
  refine takeFg (i := 4) hA 11 rfl rfl (by decide) rfl rfl rfl (by kernel_rfl) (by kernel_rfl) (by kernel_rfl) (fun _ _ _ h => h) hS (fun wx hwx => R_row hA rfl rfl (B5.below hwx) Try.underlying25 (by kernel_rfl)) (fun a hA => ?_)
  refine takeFg (i := 6) hA 13 rfl rfl (by decide) rfl rfl rfl (by kernel_rfl) (by kernel_rfl) (by kernel_rfl) (fun _ _ _ h => h) hS (fun wx hwx => R_mov hA rfl rfl _) (fun a hA => ?_)
  refine takeFg (i := 7) hA 14 rfl rfl (by decide) rfl rfl rfl (by kernel_rfl) (by kernel_rfl) (by kernel_rfl) (fun _ _ _ h => h) hS (fun wx hwx => R_mov hA rfl rfl _) (fun a hA => ?_)
  refine takeFg (i := 8) hA 15 rfl rfl (by decide) rfl rfl rfl (by kernel_rfl) (by kernel_rfl) (by kernel_rfl) (fun _ _ _ h => h) hS (fun wx hwx => R_row hA rfl rfl (B5.below hwx) Try.underlying25 (by kernel_rfl)) (fun a hA => ?_)
  refine wpAnyH_ready (rs := [5]) (by kernel_rfl) (by simp) (ready_gcall (i := 5) hA (by decide) rfl rfl rfl (fun _ _ => by kernel_rfl) (args3 hA rfl rfl rfl) (judge_any x lv s hx sk _) (fun _ h => hS.trans (h.mono hS.size)) (fun w3 hw a hA => ?_) AllReadyH.nil)
  replace hS := hS.trans (hw.mono hS.size)
  clear hw
  refine wpAnyH_ready (rs := [9]) (by kernel_rfl) (by simp) (ready_gcall (i := 9) hA (by decide) rfl rfl rfl (fun _ _ => by kernel_rfl) (args3 hA rfl rfl rfl) (djudge_any x lv s hx _) (fun _ h => hS.trans (h.mono hS.size)) (fun w4 hw a hA => ?_) AllReadyH.nil)
  replace hS := hS.trans (hw.mono hS.size)
  clear hw
  refine takeFg (i := 10) hA 17 rfl rfl (by decide) rfl rfl rfl (by kernel_rfl) (by kernel_rfl) (by kernel_rfl) (fun _ _ _ h => h) hS (fun wx hwx => R_eqlIT hA rfl rfl rfl true (by simp) _) (fun a hA => ?_)
  refine takeF (i := 11) hA 18 rfl rfl (by decide) rfl (by kernel_rfl) (by kernel_rfl) (by kernel_rfl) (fun _ _ _ h => h) hS (fun wx hwx => R_pick hA rfl rfl rfl _) (fun a hA => ?_)
  refine takeF (i := 12) hA 6 rfl rfl (by decide) rfl (by kernel_rfl) (by kernel_rfl) (by kernel_rfl) (fun _ _ _ h => h) hS (fun wx hwx => R_asg hA rfl rfl _) (fun a hA => ?_)
  refine wpAnyH_done (by kernel_rfl) ?_ _
  replace B5 := B5.below hS
  replace HB := HB.trans (hS.mono HB.size)
  clear hS
  refine then_nrm ?_
  show Code.wp Try.prog _ _ _ _
  refine wp_ret ?_
  exact ret_tmp (j := 6) (by kernel_rfl) hA (by decide) rfl ⟨rfl, HB⟩
end Go.Proofs.YtflaadnlmcgfoaaR
