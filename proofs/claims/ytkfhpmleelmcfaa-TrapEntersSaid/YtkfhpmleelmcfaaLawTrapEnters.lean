/- Layer 14: the walk of TrapEnters (written by gen_trf.py by walkf.py). -/
import Derived.Test.YtkfhpmleelmcfaaTrF
namespace Go.Proofs.Ytkfhpmleelmcfaa
open Go.RowKit
set_option linter.unusedVariables false
set_option maxRecDepth 100000

set_option maxHeartbeats 8000000 in
theorem trapEnters_walk (t : HS) (s : TS) (w : World) (ok : HOk t) (sk : TOk s) : Calls Try.prog 3 #[hartV t, tsV s] w fun e w' => e = .returned (.bool true) ∧ Below w.heap.size w w' := by
  have HB := Below.refl w.heap.size w
  go_enter Try.func3, Try.ntmps3
  refine begin_fr [(1, tsV s), (0, hartV t)] 26 ?_ (fun a hA => ?_)
  · exact FrA.add (FrA.add (FrA.nil (by rfl) (by rfl)) 0 _ (by rfl)) 1 _ (by rfl)
  refine wp_seq ?_
  refine wp_region_list ?_
  refine W_boxH hA rfl 2 rfl (by decide) rfl rfl (fun w1 bHH a hA hb HH gHH => ?_)
  replace gHH := Nat.le_trans HB.size gHH
  replace HB := HB.trans (hb.mono HB.size)
  clear hb
  refine W_boxT hA rfl 3 rfl (by decide) rfl rfl (fun w2 bTT a hA hb TT gTT => ?_)
  have nHHTT : bHH < bTT := by have := HH.lt; omega
  replace gTT := Nat.le_trans HB.size gTT
  replace HB := HB.trans (hb.mono HB.size)
  replace HH := HH.below hb
  clear hb
  refine W_val hA rfl 4 rfl (by decide) _ _ (R_asg hA rfl rfl _) (fun a hA => ?_)
  refine W_nil ?_
  refine then_nrm ?_
  show Code.wp Try.prog _ _ _ _
  refine wp_seq ?_
  refine wp_region_held_drew (S := fun wx => Below w2.heap.size w2 wx) (by kernel_rfl) ((Below.refl _ _).drew) (fun hS => ?_)
  refine takeF (i := 0) hA 5 rfl rfl (by decide) rfl (by kernel_rfl) (by kernel_rfl) (by kernel_rfl) (fun _ _ _ h => h) hS (fun wx hx => R_row hA rfl rfl (HH.below hx) Try.underlying25 (size_hart.trans (by rw [varr_size]))) (fun a hA => ?_)
  refine takeF (i := 1) hA 6 rfl rfl (by decide) rfl (by kernel_rfl) (by kernel_rfl) (by kernel_rfl) (fun _ _ _ h => h) hS (fun wx hx => R_fa hA rfl rfl (fun w => fa_ts _ 1 (by decide) w) _) (fun a hA => ?_)
  refine takeF (i := 2) hA 7 rfl rfl (by decide) rfl (by kernel_rfl) (by kernel_rfl) (by kernel_rfl) (fun _ _ _ h => h) hS (fun wx hx => R_ld (v := .int .u64 (s.c)) hA rfl rfl ag_u64 (TsB.cell (TT.below hx) 1 _ rfl)) (fun a hA => ?_)
  refine takeF (i := 4) hA 9 rfl rfl (by decide) rfl (by kernel_rfl) (by kernel_rfl) (by kernel_rfl) (fun _ _ _ h => h) hS (fun wx hx => R_row hA rfl rfl (HH.below hx) Try.underlying25 (size_hart.trans (by rw [varr_size]))) (fun a hA => ?_)
  refine takeF (i := 5) hA 10 rfl rfl (by decide) rfl (by kernel_rfl) (by kernel_rfl) (by kernel_rfl) (fun _ _ _ h => h) hS (fun wx hx => R_fa hA rfl rfl (fun w => fa_ts _ 1 (by decide) w) _) (fun a hA => ?_)
  refine takeF (i := 6) hA 11 rfl rfl (by decide) rfl (by kernel_rfl) (by kernel_rfl) (by kernel_rfl) (fun _ _ _ h => h) hS (fun wx hx => R_ld (v := .int .u64 (s.c)) hA rfl rfl ag_u64 (TsB.cell (TT.below hx) 1 _ rfl)) (fun a hA => ?_)
  refine wpAnyH_ready (rs := [3]) (by kernel_rfl) (by simp) (ready_call (i := 3) hA (by decide) rfl (fun _ _ => by kernel_rfl) (args2 hA rfl rfl) (to_any t ok s.c sk.c _) (fun _ h => hS.trans (h.mono hS.size)) (fun w3 hw a hA => ?_) AllReadyH.nil)
  replace hS := hS.trans (hw.mono hS.size)
  clear hw
  refine wpAnyH_ready (rs := [7]) (by kernel_rfl) (by simp) (ready_call (i := 7) hA (by decide) rfl (fun _ _ => by kernel_rfl) (args2 hA rfl rfl) (dto_any t ok s.c sk.c _) (fun _ h => hS.trans (h.mono hS.size)) (fun w4 hw a hA => ?_) AllReadyH.nil)
  replace hS := hS.trans (hw.mono hS.size)
  clear hw
  refine takeF (i := 8) hA 13 rfl rfl (by decide) rfl (by kernel_rfl) (by kernel_rfl) (by kernel_rfl) (fun _ _ _ h => h) hS (fun wx hx => R_eqlIT hA rfl rfl rfl true (by simp) _) (fun a hA => ?_)
  refine takeF (i := 9) hA 14 rfl rfl (by decide) rfl (by kernel_rfl) (by kernel_rfl) (by kernel_rfl) (fun _ _ _ h => h) hS (fun wx hx => R_mov hA rfl rfl _) (fun a hA => ?_)
  refine takeFg (i := 10) hA 15 rfl rfl (by decide) rfl rfl rfl (by kernel_rfl) (by kernel_rfl) (by kernel_rfl) (fun _ _ _ h => h) hS (fun wx hx => R_row hA rfl rfl (HH.below hx) Try.underlying25 (size_hart.trans (by rw [varr_size]))) (fun a hA => ?_)
  refine takeFg (i := 11) hA 16 rfl rfl (by decide) rfl rfl rfl (by kernel_rfl) (by kernel_rfl) (by kernel_rfl) (fun _ _ _ h => h) hS (fun wx hx => R_row hA rfl rfl (TT.below hx) Try.underlying27 (size_ts _)) (fun a hA => ?_)
  refine takeFg (i := 13) hA 18 rfl rfl (by decide) rfl rfl rfl (by kernel_rfl) (by kernel_rfl) (by kernel_rfl) (fun _ _ _ h => h) hS (fun wx hx => R_row hA rfl rfl (HH.below hx) Try.underlying25 (size_hart.trans (by rw [varr_size]))) (fun a hA => ?_)
  refine takeFg (i := 14) hA 19 rfl rfl (by decide) rfl rfl rfl (by kernel_rfl) (by kernel_rfl) (by kernel_rfl) (fun _ _ _ h => h) hS (fun wx hx => R_row hA rfl rfl (TT.below hx) Try.underlying27 (size_ts _)) (fun a hA => ?_)
  refine wpAnyH_ready (rs := [12]) (by kernel_rfl) (by simp) (ready_gcall (i := 12) hA (by decide) rfl rfl rfl (fun _ _ => by kernel_rfl) (args2 hA rfl rfl) (enter_any t ok s sk _) (fun _ h => hS.trans (h.mono hS.size)) (fun w5 hw a hA => ?_) AllReadyH.nil)
  replace hS := hS.trans (hw.mono hS.size)
  clear hw
  refine wpAnyH_ready (rs := [15]) (by kernel_rfl) (by simp) (ready_gcall (i := 15) hA (by decide) rfl rfl rfl (fun _ _ => by kernel_rfl) (args2 hA rfl rfl) (denter_any t ok s sk _) (fun _ h => hS.trans (h.mono hS.size)) (fun w6 hw a hA => ?_) AllReadyH.nil)
  replace hS := hS.trans (hw.mono hS.size)
  clear hw
  refine takeFg (i := 16) hA 21 rfl rfl (by decide) rfl rfl rfl (by kernel_rfl) (by kernel_rfl) (by kernel_rfl) (fun _ _ _ h => h) hS (fun wx hx => R_eqlH hA rfl rfl rfl true (eqH_refl _) _) (fun a hA => ?_)
  refine takeF (i := 17) hA 22 rfl rfl (by decide) rfl (by kernel_rfl) (by kernel_rfl) (by kernel_rfl) (fun _ _ _ h => h) hS (fun wx hx => R_pick hA rfl rfl rfl _) (fun a hA => ?_)
  refine takeF (i := 18) hA 23 rfl rfl (by decide) rfl (by kernel_rfl) (by kernel_rfl) (by kernel_rfl) (fun _ _ _ h => h) hS (fun wx hx => R_mov hA rfl rfl _) (fun a hA => ?_)
  refine wpAnyH_ready (rs := [19]) (by kernel_rfl) (by simp) (ready_gcall (i := 19) hA (by decide) rfl rfl rfl (fun _ _ => by kernel_rfl) (args0 ) (wakes_any _) (fun _ h => hS.trans (h.mono hS.size)) (fun w7 hw a hA => ?_) AllReadyH.nil)
  replace hS := hS.trans (hw.mono hS.size)
  clear hw
  refine takeF (i := 20) hA 25 rfl rfl (by decide) rfl (by kernel_rfl) (by kernel_rfl) (by kernel_rfl) (fun _ _ _ h => h) hS (fun wx hx => R_pick hA rfl rfl rfl _) (fun a hA => ?_)
  refine takeF (i := 21) hA 4 rfl rfl (by decide) rfl (by kernel_rfl) (by kernel_rfl) (by kernel_rfl) (fun _ _ _ h => h) hS (fun wx hx => R_asg hA rfl rfl _) (fun a hA => ?_)
  refine wpAnyH_done (by kernel_rfl) ?_ _
  replace HH := HH.below hS
  replace TT := TT.below hS
  replace HB := HB.trans (hS.mono HB.size)
  clear hS
  refine then_nrm ?_
  show Code.wp Try.prog _ _ _ _
  refine wp_ret ?_
  exact ret_tmp (j := 4) (by kernel_rfl) hA (by decide) rfl ⟨rfl, HB⟩
end Go.Proofs.Ytkfhpmleelmcfaa
