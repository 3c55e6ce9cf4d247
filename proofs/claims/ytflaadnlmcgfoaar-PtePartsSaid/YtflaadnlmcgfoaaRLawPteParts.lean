/- Layer 15: the walk of PteParts (written by gen_ptc.py by walkt.py). -/
import Derived.Test.YtflaadnlmcgfoaaRPtC
namespace Go.Proofs.YtflaadnlmcgfoaaR
open Go.RowKit
set_option linter.unusedVariables false
set_option maxRecDepth 100000

set_option maxHeartbeats 8000000 in
theorem pteParts_walk (x p f : Int) (w : World) (hx : In64 x) (hp : In64 p) (hf : In64 f) : Calls Try.prog 4 #[.int .u64 x, .int .u64 p, .int .u64 f] w fun e w' => e = .returned (.bool true) ∧ Below w.heap.size w w' := by
  have HB := Below.refl w.heap.size w
  go_enter Try.func4, Try.ntmps4
  refine begin_fr [(2, .int .u64 f), (1, .int .u64 p), (0, .int .u64 x)] 41 ?_ (fun a hA => ?_)
  · exact FrA.add (FrA.add (FrA.add (FrA.nil (by rfl) (by rfl)) 0 _ (by rfl)) 1 _ (by rfl)) 2 _ (by rfl)
  refine wp_seq ?_
  refine wp_region_list ?_
  refine W_val hA rfl 6 rfl (by decide) _ _ (R_asg hA rfl rfl _) (fun a hA => ?_)
  refine W_nil ?_
  refine then_nrm ?_
  show Code.wp Try.prog _ _ _ _
  refine wp_seq ?_
  refine wp_region_list ?_
  refine W_val hA rfl 8 rfl (by decide) _ _ (R_mov hA rfl rfl _) (fun a hA => ?_)
  refine W_callA hA (by decide) (fun _ _ => by kernel_rfl) (args1 hA rfl) (of_any x hx _) (fun w1 hw a hA => ?_)
  replace HB := HB.trans (hw.mono HB.size)
  clear hw
  refine W_allocT (cs := #[.bool false, .bool false, .bool false, .bool false, .bool false, .bool false, .bool false, .bool false, .int .u64 0, .int .u64 0]) hA rfl 7 rfl (by decide) rfl zero_ent (fun w2 bB7 a hA hb B7 gB7 => ?_)
  replace gB7 := Nat.le_trans HB.size gB7
  replace HB := HB.trans (hb.mono HB.size)
  clear hb
  refine W_cpT (cs := entC x) hA rfl rfl rfl rfl rfl B7 (by kernel_rfl) rfl (by simp [Value.oneCell']) (fun w3 hT HN => ?_)
  replace HB := HB.trans (hT.bel _ gB7)
  replace B7 := HN
  clear hT HN
  refine W_nil ?_
  refine then_nrm ?_
  show Code.wp Try.prog _ _ _ _
  refine wp_seq ?_
  refine wp_region_held_drew (S := fun wx => Below w3.heap.size w3 wx) (by kernel_rfl) ((Below.refl _ _).drew) (fun hS => ?_)
  refine wpAnyH_ready (rs := [0]) (by kernel_rfl) (by simp) (ready_call (i := 0) hA (by decide) rfl (fun _ _ => by kernel_rfl) (args0 ) (awake_any _) (fun _ h => hS.trans (h.mono hS.size)) (fun w4 hw a hA => ?_) AllReadyH.nil)
  replace hS := hS.trans (hw.mono hS.size)
  clear hw
  refine takeF (i := 1) hA 11 rfl rfl (by decide) rfl (by kernel_rfl) (by kernel_rfl) (by kernel_rfl) (fun _ _ _ h => h) hS (fun wx hwx => R_mov hA rfl rfl _) (fun a hA => ?_)
  refine takeFg (i := 2) hA 12 rfl rfl (by decide) rfl rfl rfl (by kernel_rfl) (by kernel_rfl) (by kernel_rfl) (fun _ _ _ h => h) hS (fun wx hwx => R_mov hA rfl rfl _) (fun a hA => ?_)
  refine takeFg (i := 3) hA 13 rfl rfl (by decide) rfl rfl rfl (by kernel_rfl) (by kernel_rfl) (by kernel_rfl) (fun _ _ _ h => h) hS (fun wx hwx => R_mov hA rfl rfl _) (fun a hA => ?_)
  refine takeFg (i := 5) hA 15 rfl rfl (by decide) rfl rfl rfl (by kernel_rfl) (by kernel_rfl) (by kernel_rfl) (fun _ _ _ h => h) hS (fun wx hwx => R_mov hA rfl rfl _) (fun a hA => ?_)
  refine takeFg (i := 6) hA 16 rfl rfl (by decide) rfl rfl rfl (by kernel_rfl) (by kernel_rfl) (by kernel_rfl) (fun _ _ _ h => h) hS (fun wx hwx => R_mov hA rfl rfl _) (fun a hA => ?_)
  refine wpAnyH_ready (rs := [4]) (by kernel_rfl) (by simp) (ready_gcall (i := 4) hA (by decide) rfl rfl rfl (fun _ _ => by kernel_rfl) (args2 hA rfl rfl) (make_any _ _ (by assumption) (by assumption) _) (fun _ h => hS.trans (h.mono hS.size)) (fun w5 hw a hA => ?_) AllReadyH.nil)
  replace hS := hS.trans (hw.mono hS.size)
  clear hw
  refine wpAnyH_ready (rs := [7]) (by kernel_rfl) (by simp) (ready_gcall (i := 7) hA (by decide) rfl rfl rfl (fun _ _ => by kernel_rfl) (args2 hA rfl rfl) (dmake_any _ _ (by assumption) (by assumption) _) (fun _ h => h ▸ hS) (fun w6 hw a hA => ?_) AllReadyH.nil)
  subst hw
  refine takeFg (i := 8) hA 18 rfl rfl (by decide) rfl rfl rfl (by kernel_rfl) (by kernel_rfl) (by kernel_rfl) (fun _ _ _ h => h) hS (fun wx hwx => R_eqlUT hA rfl rfl rfl true (by simp) _) (fun a hA => ?_)
  refine takeF (i := 9) hA 19 rfl rfl (by decide) rfl (by kernel_rfl) (by kernel_rfl) (by kernel_rfl) (fun _ _ _ h => h) hS (fun wx hwx => R_pick hA rfl rfl rfl _) (fun a hA => ?_)
  refine takeF (i := 10) hA 20 rfl rfl (by decide) rfl (by kernel_rfl) (by kernel_rfl) (by kernel_rfl) (fun _ _ _ h => h) hS (fun wx hwx => R_mov hA rfl rfl _) (fun a hA => ?_)
  refine takeFg (i := 11) hA 21 rfl rfl (by decide) rfl rfl rfl (by kernel_rfl) (by kernel_rfl) (by kernel_rfl) (fun _ _ _ h => h) hS (fun wx hwx => R_mov hA rfl rfl _) (fun a hA => ?_)
  refine takeFg (i := 13) hA 23 rfl rfl (by decide) rfl rfl rfl (by kernel_rfl) (by kernel_rfl) (by kernel_rfl) (fun _ _ _ h => h) hS (fun wx hwx => R_fa hA rfl rfl (fun w => fa_ent _ 8 (by decide) w) _) (fun a hA => ?_)
  refine takeFg (i := 14) hA 24 rfl rfl (by decide) rfl rfl rfl (by kernel_rfl) (by kernel_rfl) (by kernel_rfl) (fun _ _ _ h => h) hS (fun wx hwx => R_ld (v := .int .u64 (pageZ x)) hA rfl rfl ag_u64 (RowC.cell (B7.below hwx) 8 _ rfl)) (fun a hA => ?_)
  refine wpAnyH_ready (rs := [12]) (by kernel_rfl) (by simp) (ready_gcall (i := 12) hA (by decide) rfl rfl rfl (fun _ _ => by kernel_rfl) (args1 hA rfl) (page_any _ (by assumption) _) (fun _ h => hS.trans (h.mono hS.size)) (fun w7 hw a hA => ?_) AllReadyH.nil)
  replace hS := hS.trans (hw.mono hS.size)
  clear hw
  refine takeFg (i := 15) hA 25 rfl rfl (by decide) rfl rfl rfl (by kernel_rfl) (by kernel_rfl) (by kernel_rfl) (fun _ _ _ h => h) hS (fun wx hwx => R_eqlUT hA rfl rfl rfl true (by simp) _) (fun a hA => ?_)
  refine takeF (i := 16) hA 26 rfl rfl (by decide) rfl (by kernel_rfl) (by kernel_rfl) (by kernel_rfl) (fun _ _ _ h => h) hS (fun wx hwx => R_pick hA rfl rfl rfl _) (fun a hA => ?_)
  refine takeF (i := 17) hA 27 rfl rfl (by decide) rfl (by kernel_rfl) (by kernel_rfl) (by kernel_rfl) (fun _ _ _ h => h) hS (fun wx hwx => R_mov hA rfl rfl _) (fun a hA => ?_)
  refine takeFg (i := 18) hA 28 rfl rfl (by decide) rfl rfl rfl (by kernel_rfl) (by kernel_rfl) (by kernel_rfl) (fun _ _ _ h => h) hS (fun wx hwx => R_mov hA rfl rfl _) (fun a hA => ?_)
  refine takeFg (i := 20) hA 30 rfl rfl (by decide) rfl rfl rfl (by kernel_rfl) (by kernel_rfl) (by kernel_rfl) (fun _ _ _ h => h) hS (fun wx hwx => R_row hA rfl rfl (B7.below hwx) Try.underlying33 (by kernel_rfl)) (fun a hA => ?_)
  refine wpAnyH_ready (rs := [19]) (by kernel_rfl) (by simp) (ready_gcall (i := 19) hA (by decide) rfl rfl rfl (fun _ _ => by kernel_rfl) (args1 hA rfl) (ok_any _ (by assumption) _) (fun _ h => hS.trans (h.mono hS.size)) (fun w8 hw a hA => ?_) AllReadyH.nil)
  replace hS := hS.trans (hw.mono hS.size)
  clear hw
  refine wpAnyH_ready (rs := [21]) (by kernel_rfl) (by simp) (ready_gcall (i := 21) hA (by decide) rfl rfl rfl (fun _ _ => by kernel_rfl) (args1 hA rfl) (dok_any x _) (fun _ h => hS.trans (h.mono hS.size)) (fun w9 hw a hA => ?_) AllReadyH.nil)
  replace hS := hS.trans (hw.mono hS.size)
  clear hw
  refine takeFg (i := 22) hA 32 rfl rfl (by decide) rfl rfl rfl (by kernel_rfl) (by kernel_rfl) (by kernel_rfl) (fun _ _ _ h => h) hS (fun wx hwx => R_eqlBT hA rfl rfl rfl true (by simp) _) (fun a hA => ?_)
  refine takeF (i := 23) hA 33 rfl rfl (by decide) rfl (by kernel_rfl) (by kernel_rfl) (by kernel_rfl) (fun _ _ _ h => h) hS (fun wx hwx => R_pick hA rfl rfl rfl _) (fun a hA => ?_)
  refine takeF (i := 24) hA 34 rfl rfl (by decide) rfl (by kernel_rfl) (by kernel_rfl) (by kernel_rfl) (fun _ _ _ h => h) hS (fun wx hwx => R_mov hA rfl rfl _) (fun a hA => ?_)
  refine takeFg (i := 25) hA 35 rfl rfl (by decide) rfl rfl rfl (by kernel_rfl) (by kernel_rfl) (by kernel_rfl) (fun _ _ _ h => h) hS (fun wx hwx => R_mov hA rfl rfl _) (fun a hA => ?_)
  refine takeFg (i := 27) hA 37 rfl rfl (by decide) rfl rfl rfl (by kernel_rfl) (by kernel_rfl) (by kernel_rfl) (fun _ _ _ h => h) hS (fun wx hwx => R_row hA rfl rfl (B7.below hwx) Try.underlying33 (by kernel_rfl)) (fun a hA => ?_)
  refine wpAnyH_ready (rs := [26]) (by kernel_rfl) (by simp) (ready_gcall (i := 26) hA (by decide) rfl rfl rfl (fun _ _ => by kernel_rfl) (args1 hA rfl) (leaf_any _ (by assumption) _) (fun _ h => hS.trans (h.mono hS.size)) (fun w10 hw a hA => ?_) AllReadyH.nil)
  replace hS := hS.trans (hw.mono hS.size)
  clear hw
  refine wpAnyH_ready (rs := [28]) (by kernel_rfl) (by simp) (ready_gcall (i := 28) hA (by decide) rfl rfl rfl (fun _ _ => by kernel_rfl) (args1 hA rfl) (dleaf_any x _) (fun _ h => hS.trans (h.mono hS.size)) (fun w11 hw a hA => ?_) AllReadyH.nil)
  replace hS := hS.trans (hw.mono hS.size)
  clear hw
  refine takeFg (i := 29) hA 39 rfl rfl (by decide) rfl rfl rfl (by kernel_rfl) (by kernel_rfl) (by kernel_rfl) (fun _ _ _ h => h) hS (fun wx hwx => R_eqlBT hA rfl rfl rfl true (by simp) _) (fun a hA => ?_)
  refine takeF (i := 30) hA 40 rfl rfl (by decide) rfl (by kernel_rfl) (by kernel_rfl) (by kernel_rfl) (fun _ _ _ h => h) hS (fun wx hwx => R_pick hA rfl rfl rfl _) (fun a hA => ?_)
  refine takeF (i := 31) hA 6 rfl rfl (by decide) rfl (by kernel_rfl) (by kernel_rfl) (by kernel_rfl) (fun _ _ _ h => h) hS (fun wx hwx => R_asg hA rfl rfl _) (fun a hA => ?_)
  refine wpAnyH_done (by kernel_rfl) ?_ _
  replace B7 := B7.below hS
  replace HB := HB.trans (hS.mono HB.size)
  clear hS
  refine then_nrm ?_
  show Code.wp Try.prog _ _ _ _
  refine wp_ret ?_
  exact ret_tmp (j := 6) (by kernel_rfl) hA (by decide) rfl ⟨rfl, HB⟩
end Go.Proofs.YtflaadnlmcgfoaaR
