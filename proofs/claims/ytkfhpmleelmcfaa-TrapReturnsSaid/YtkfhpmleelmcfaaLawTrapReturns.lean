/- Layer 14: the walk of TrapReturns (written by gen_trf.py by walkf.py). -/
import Derived.Test.YtkfhpmleelmcfaaTrF
namespace Go.Proofs.Ytkfhpmleelmcfaa
open Go.RowKit
set_option linter.unusedVariables false
set_option maxRecDepth 100000

set_option maxHeartbeats 8000000 in
theorem trapReturns_walk (t : HS) (w : World) (ok : HOk t) : Calls Try.prog 4 #[hartV t] w fun e w' => e = .returned (.bool true) ∧ Below w.heap.size w w' := by
  have HB := Below.refl w.heap.size w
  go_enter Try.func4, Try.ntmps4
  refine begin_fr [(0, hartV t)] 18 ?_ (fun a hA => ?_)
  · exact FrA.add (FrA.nil (by rfl) (by rfl)) 0 _ (by rfl)
  refine wp_seq ?_
  refine wp_region_list ?_
  refine W_boxH hA rfl 1 rfl (by decide) rfl rfl (fun w1 bHH a hA hb HH gHH => ?_)
  replace gHH := Nat.le_trans HB.size gHH
  replace HB := HB.trans (hb.mono HB.size)
  clear hb
  refine W_val hA rfl 2 rfl (by decide) _ _ (R_asg hA rfl rfl _) (fun a hA => ?_)
  refine W_nil ?_
  refine then_nrm ?_
  show Code.wp Try.prog _ _ _ _
  refine wp_seq ?_
  refine wp_region_held_drew (S := fun wx => Below w1.heap.size w1 wx) (by kernel_rfl) ((Below.refl _ _).drew) (fun hS => ?_)
  refine takeF (i := 0) hA 3 rfl rfl (by decide) rfl (by kernel_rfl) (by kernel_rfl) (by kernel_rfl) (fun _ _ _ h => h) hS (fun wx hx => R_row hA rfl rfl (HH.below hx) Try.underlying25 (size_hart.trans (by rw [varr_size]))) (fun a hA => ?_)
  refine takeF (i := 2) hA 5 rfl rfl (by decide) rfl (by kernel_rfl) (by kernel_rfl) (by kernel_rfl) (fun _ _ _ h => h) hS (fun wx hx => R_row hA rfl rfl (HH.below hx) Try.underlying25 (size_hart.trans (by rw [varr_size]))) (fun a hA => ?_)
  refine wpAnyH_ready (rs := [1]) (by kernel_rfl) (by simp) (ready_call (i := 1) hA (by decide) rfl (fun _ _ => by kernel_rfl) (args1 hA rfl) (mret_any t ok _) (fun _ h => hS.trans (h.mono hS.size)) (fun w2 hw a hA => ?_) AllReadyH.nil)
  replace hS := hS.trans (hw.mono hS.size)
  clear hw
  refine wpAnyH_ready (rs := [3]) (by kernel_rfl) (by simp) (ready_call (i := 3) hA (by decide) rfl (fun _ _ => by kernel_rfl) (args1 hA rfl) (dmret_any t ok _) (fun _ h => hS.trans (h.mono hS.size)) (fun w3 hw a hA => ?_) AllReadyH.nil)
  replace hS := hS.trans (hw.mono hS.size)
  clear hw
  refine takeF (i := 4) hA 7 rfl rfl (by decide) rfl (by kernel_rfl) (by kernel_rfl) (by kernel_rfl) (fun _ _ _ h => h) hS (fun wx hx => R_eqlH hA rfl rfl rfl true (eqH_refl _) _) (fun a hA => ?_)
  refine takeF (i := 5) hA 8 rfl rfl (by decide) rfl (by kernel_rfl) (by kernel_rfl) (by kernel_rfl) (fun _ _ _ h => h) hS (fun wx hx => R_mov hA rfl rfl _) (fun a hA => ?_)
  refine takeFg (i := 6) hA 9 rfl rfl (by decide) rfl rfl rfl (by kernel_rfl) (by kernel_rfl) (by kernel_rfl) (fun _ _ _ h => h) hS (fun wx hx => R_row hA rfl rfl (HH.below hx) Try.underlying25 (size_hart.trans (by rw [varr_size]))) (fun a hA => ?_)
  refine takeFg (i := 8) hA 11 rfl rfl (by decide) rfl rfl rfl (by kernel_rfl) (by kernel_rfl) (by kernel_rfl) (fun _ _ _ h => h) hS (fun wx hx => R_row hA rfl rfl (HH.below hx) Try.underlying25 (size_hart.trans (by rw [varr_size]))) (fun a hA => ?_)
  refine wpAnyH_ready (rs := [7]) (by kernel_rfl) (by simp) (ready_gcall (i := 7) hA (by decide) rfl rfl rfl (fun _ _ => by kernel_rfl) (args1 hA rfl) (sret_any t ok _) (fun _ h => hS.trans (h.mono hS.size)) (fun w4 hw a hA => ?_) AllReadyH.nil)
  replace hS := hS.trans (hw.mono hS.size)
  clear hw
  refine wpAnyH_ready (rs := [9]) (by kernel_rfl) (by simp) (ready_gcall (i := 9) hA (by decide) rfl rfl rfl (fun _ _ => by kernel_rfl) (args1 hA rfl) (dsret_any t ok _) (fun _ h => hS.trans (h.mono hS.size)) (fun w5 hw a hA => ?_) AllReadyH.nil)
  replace hS := hS.trans (hw.mono hS.size)
  clear hw
  refine takeFg (i := 10) hA 13 rfl rfl (by decide) rfl rfl rfl (by kernel_rfl) (by kernel_rfl) (by kernel_rfl) (fun _ _ _ h => h) hS (fun wx hx => R_eqlH hA rfl rfl rfl true (eqH_refl _) _) (fun a hA => ?_)
  refine takeF (i := 11) hA 14 rfl rfl (by decide) rfl (by kernel_rfl) (by kernel_rfl) (by kernel_rfl) (fun _ _ _ h => h) hS (fun wx hx => R_pick hA rfl rfl rfl _) (fun a hA => ?_)
  refine takeF (i := 12) hA 15 rfl rfl (by decide) rfl (by kernel_rfl) (by kernel_rfl) (by kernel_rfl) (fun _ _ _ h => h) hS (fun wx hx => R_mov hA rfl rfl _) (fun a hA => ?_)
  refine wpAnyH_ready (rs := [13]) (by kernel_rfl) (by simp) (ready_gcall (i := 13) hA (by decide) rfl rfl rfl (fun _ _ => by kernel_rfl) (args0 ) (wakes_any _) (fun _ h => hS.trans (h.mono hS.size)) (fun w6 hw a hA => ?_) AllReadyH.nil)
  replace hS := hS.trans (hw.mono hS.size)
  clear hw
  refine takeF (i := 14) hA 17 rfl rfl (by decide) rfl (by kernel_rfl) (by kernel_rfl) (by kernel_rfl) (fun _ _ _ h => h) hS (fun wx hx => R_pick hA rfl rfl rfl _) (fun a hA => ?_)
  refine takeF (i := 15) hA 2 rfl rfl (by decide) rfl (by kernel_rfl) (by kernel_rfl) (by kernel_rfl) (fun _ _ _ h => h) hS (fun wx hx => R_asg hA rfl rfl _) (fun a hA => ?_)
  refine wpAnyH_done (by kernel_rfl) ?_ _
  replace HH := HH.below hS
  replace HB := HB.trans (hS.mono HB.size)
  clear hS
  refine then_nrm ?_
  show Code.wp Try.prog _ _ _ _
  refine wp_ret ?_
  exact ret_tmp (j := 2) (by kernel_rfl) hA (by decide) rfl ⟨rfl, HB⟩
end Go.Proofs.Ytkfhpmleelmcfaa
