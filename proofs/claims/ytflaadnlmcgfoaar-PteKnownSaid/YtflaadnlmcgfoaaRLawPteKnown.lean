/- Layer 15: the walk of PteKnown (written by gen_ptc.py by walkt.py). -/
import Derived.Test.YtflaadnlmcgfoaaRPtC
namespace Go.Proofs.YtflaadnlmcgfoaaR
open Go.RowKit
set_option linter.unusedVariables false
set_option maxRecDepth 100000

set_option maxHeartbeats 8000000 in
theorem pteKnown_walk (w : World) : Calls Try.prog 3 #[] w fun e w' => e = .returned (.bool true) ∧ Below w.heap.size w w' := by
  have HB := Below.refl w.heap.size w
  go_enter Try.func3, Try.ntmps3
  refine begin_fr [] 132 ?_ (fun a hA => ?_)
  · exact FrA.nil (by rfl) (by rfl)
  refine wp_seq ?_
  refine wp_region_list ?_
  refine W_val hA rfl 0 rfl (by decide) _ _ (R_asg hA rfl rfl _) (fun a hA => ?_)
  refine W_nil ?_
  refine then_nrm ?_
  show Code.wp Try.prog _ _ _ _
  refine wp_seq ?_
  refine wp_seq ?_
  refine wp_region_list ?_
  refine W_callA hA (by decide) (fun _ _ => by kernel_rfl) (args1 hA rfl) (leaf_to (r := false) (by unfold In64; decide) (by decide +kernel) _) (fun w1 hw a hA => ?_)
  replace HB := HB.trans (hw.mono HB.size)
  clear hw
  refine W_val hA rfl 7 rfl (by decide) _ _ (R_mov hA rfl rfl _) (fun a hA => ?_)
  refine W_gcallB hA rfl rfl (by decide) (fun _ _ => by kernel_rfl) (args1 hA rfl) (leaf_to (r := true) (by unfold In64; decide) (by decide +kernel) _) (fun w2 hw a hA => ?_)
  replace HB := HB.trans (hw.mono HB.size)
  clear hw
  refine W_gval hA rfl rfl rfl 9 rfl (by decide) _ _ (R_not hA rfl rfl _) (fun a hA => ?_)
  refine W_val hA rfl 10 rfl (by decide) _ _ (R_pick hA rfl rfl rfl _) (fun a hA => ?_)
  refine W_val hA rfl 11 rfl (by decide) _ _ (R_mov hA rfl rfl _) (fun a hA => ?_)
  refine W_gcallB hA rfl rfl (by decide) (fun _ _ => by kernel_rfl) (args1 hA rfl) (ok_to (r := false) (by unfold In64; decide) (by decide +kernel) _) (fun w3 hw a hA => ?_)
  replace HB := HB.trans (hw.mono HB.size)
  clear hw
  refine W_val hA rfl 13 rfl (by decide) _ _ (R_pick hA rfl rfl rfl _) (fun a hA => ?_)
  refine W_val hA rfl 14 rfl (by decide) _ _ (R_mov hA rfl rfl _) (fun a hA => ?_)
  refine W_gcallB hA rfl rfl (by decide) (fun _ _ => by kernel_rfl) (args1 hA rfl) (ok_to (r := true) (by unfold In64; decide) (by decide +kernel) _) (fun w4 hw a hA => ?_)
  replace HB := HB.trans (hw.mono HB.size)
  clear hw
  refine W_gval hA rfl rfl rfl 16 rfl (by decide) _ _ (R_not hA rfl rfl _) (fun a hA => ?_)
  refine W_val hA rfl 17 rfl (by decide) _ _ (R_pick hA rfl rfl rfl _) (fun a hA => ?_)
  refine W_val hA rfl 18 rfl (by decide) _ _ (R_mov hA rfl rfl _) (fun a hA => ?_)
  refine W_gcallB hA rfl rfl (by decide) (fun _ _ => by kernel_rfl) (args1 hA rfl) (ok_to (r := false) (by unfold In64; decide) (by decide +kernel) _) (fun w5 hw a hA => ?_)
  replace HB := HB.trans (hw.mono HB.size)
  clear hw
  refine W_val hA rfl 20 rfl (by decide) _ _ (R_pick hA rfl rfl rfl _) (fun a hA => ?_)
  refine W_val hA rfl 21 rfl (by decide) _ _ (R_mov hA rfl rfl _) (fun a hA => ?_)
  refine W_gcallB hA rfl rfl (by decide) (fun _ _ => by kernel_rfl) (args1 hA rfl) (ok_to (r := false) (by unfold In64; decide) (by decide +kernel) _) (fun w6 hw a hA => ?_)
  replace HB := HB.trans (hw.mono HB.size)
  clear hw
  refine W_val hA rfl 23 rfl (by decide) _ _ (R_pick hA rfl rfl rfl _) (fun a hA => ?_)
  refine W_val hA rfl 24 rfl (by decide) _ _ (R_mov hA rfl rfl _) (fun a hA => ?_)
  refine W_gcallB hA rfl rfl (by decide) (fun _ _ => by kernel_rfl) (args1 hA rfl) (ok_to (r := false) (by unfold In64; decide) (by decide +kernel) _) (fun w7 hw a hA => ?_)
  replace HB := HB.trans (hw.mono HB.size)
  clear hw
  refine W_val hA rfl 26 rfl (by decide) _ _ (R_pick hA rfl rfl rfl _) (fun a hA => ?_)
  refine W_val hA rfl 27 rfl (by decide) _ _ (R_mov hA rfl rfl _) (fun a hA => ?_)
  refine W_gcallB hA rfl rfl (by decide) (fun _ _ => by kernel_rfl) (args1 hA rfl) (ok_to (r := true) (by unfold In64; decide) (by decide +kernel) _) (fun w8 hw a hA => ?_)
  replace HB := HB.trans (hw.mono HB.size)
  clear hw
  refine W_gval hA rfl rfl rfl 29 rfl (by decide) _ _ (R_not hA rfl rfl _) (fun a hA => ?_)
  refine W_val hA rfl 30 rfl (by decide) _ _ (R_pick hA rfl rfl rfl _) (fun a hA => ?_)
  refine W_val hA rfl 31 rfl (by decide) _ _ (R_mov hA rfl rfl _) (fun a hA => ?_)
  refine W_gcallB hA rfl rfl (by decide) (fun _ _ => by kernel_rfl) (args1 hA rfl) (ok_to (r := false) (by unfold In64; decide) (by decide +kernel) _) (fun w9 hw a hA => ?_)
  replace HB := HB.trans (hw.mono HB.size)
  clear hw
  refine W_val hA rfl 33 rfl (by decide) _ _ (R_pick hA rfl rfl rfl _) (fun a hA => ?_)
  refine W_nil ?_
  refine then_nrm ?_
  show Code.wp Try.prog _ _ _ _
  refine wp_cond_false (hA.ev (x := .tmp 33) rfl) ?_
  refine wp_skip ?_
  refine then_nrm ?_
  show Code.wp Try.prog _ _ _ _
  refine wp_seq ?_
  refine wp_region_list ?_
  refine W_val hA rfl 34 rfl (by decide) _ _ (R_build (ps := [(0, .const (.int .u8 0)), (2, .const (.int .u8 0))]) hA rfl [(0, .int .u8 0), (2, .int .u8 0)] rfl (cs := wantC ⟨0, false, 0, false, false, false, false⟩) (by kernel_rfl) _) (fun a hA => ?_)
  refine W_allocT (cs := #[.int .u8 0, .bool false, .int .u8 0, .bool false, .bool false, .bool false, .bool false]) hA rfl 1 rfl (by decide) rfl zero_want (fun w10 bB1 a hA hb B1 gB1 => ?_)
  replace gB1 := Nat.le_trans HB.size gB1
  replace HB := HB.trans (hb.mono HB.size)
  clear hb
  refine W_cpT (cs := wantC ⟨0, false, 0, false, false, false, false⟩) hA rfl rfl rfl rfl rfl B1 (by kernel_rfl) rfl (by simp [Value.oneCell']) (fun w11 hT HN => ?_)
  replace HB := HB.trans (hT.bel _ gB1)
  replace B1 := HN
  clear hT HN
  refine W_nil ?_
  refine then_nrm ?_
  show Code.wp Try.prog _ _ _ _
  refine wp_seq ?_
  refine wp_region_list ?_
  refine W_val hA rfl 35 rfl (by decide) _ _ (R_build (ps := [(0, .const (.int .u8 0)), (2, .const (.int .u8 0)), (5, .const (.bool true))]) hA rfl [(0, .int .u8 0), (2, .int .u8 0), (5, .bool true)] rfl (cs := wantC ⟨0, false, 0, false, false, true, false⟩) (by kernel_rfl) _) (fun a hA => ?_)
  refine W_allocT (cs := #[.int .u8 0, .bool false, .int .u8 0, .bool false, .bool false, .bool false, .bool false]) hA rfl 2 rfl (by decide) rfl zero_want (fun w12 bB2 a hA hb B2 gB2 => ?_)
  have nB1B2 : bB1 < bB2 := by have := B1.lt; omega
  replace gB2 := Nat.le_trans HB.size gB2
  replace HB := HB.trans (hb.mono HB.size)
  replace B1 := B1.below hb
  clear hb
  refine W_cpT (cs := wantC ⟨0, false, 0, false, false, true, false⟩) hA rfl rfl rfl rfl rfl B2 (by kernel_rfl) rfl (by simp [Value.oneCell']) (fun w13 hT HN => ?_)
  replace HB := HB.trans (hT.bel _ gB2)
  replace B1 := hT.row B1 (by omega)
  replace B2 := HN
  clear hT HN
  refine W_nil ?_
  refine then_nrm ?_
  show Code.wp Try.prog _ _ _ _
  refine wp_seq ?_
  refine wp_region_list ?_
  refine W_val hA rfl 36 rfl (by decide) _ _ (R_build (ps := [(0, .const (.int .u8 0)), (2, .const (.int .u8 1))]) hA rfl [(0, .int .u8 0), (2, .int .u8 1)] rfl (cs := wantC ⟨0, false, 1, false, false, false, false⟩) (by kernel_rfl) _) (fun a hA => ?_)
  refine W_allocT (cs := #[.int .u8 0, .bool false, .int .u8 0, .bool false, .bool false, .bool false, .bool false]) hA rfl 3 rfl (by decide) rfl zero_want (fun w14 bB3 a hA hb B3 gB3 => ?_)
  have nB1B3 : bB1 < bB3 := by have := B1.lt; omega
  have nB2B3 : bB2 < bB3 := by have := B2.lt; omega
  replace gB3 := Nat.le_trans HB.size gB3
  replace HB := HB.trans (hb.mono HB.size)
  replace B1 := B1.below hb
  replace B2 := B2.below hb
  clear hb
  refine W_cpT (cs := wantC ⟨0, false, 1, false, false, false, false⟩) hA rfl rfl rfl rfl rfl B3 (by kernel_rfl) rfl (by simp [Value.oneCell']) (fun w15 hT HN => ?_)
  replace HB := HB.trans (hT.bel _ gB3)
  replace B1 := hT.row B1 (by omega)
  replace B2 := hT.row B2 (by omega)
  replace B3 := HN
  clear hT HN
  refine W_nil ?_
  refine then_nrm ?_
  show Code.wp Try.prog _ _ _ _
  refine wp_seq ?_
  refine wp_region_list ?_
  refine W_val hA rfl 37 rfl (by decide) _ _ (R_build (ps := [(0, .const (.int .u8 0)), (2, .const (.int .u8 1)), (4, .const (.bool true))]) hA rfl [(0, .int .u8 0), (2, .int .u8 1), (4, .bool true)] rfl (cs := wantC ⟨0, false, 1, false, true, false, false⟩) (by kernel_rfl) _) (fun a hA => ?_)
  refine W_allocT (cs := #[.int .u8 0, .bool false, .int .u8 0, .bool false, .bool false, .bool false, .bool false]) hA rfl 4 rfl (by decide) rfl zero_want (fun w16 bB4 a hA hb B4 gB4 => ?_)
  have nB1B4 : bB1 < bB4 := by have := B1.lt; omega
  have nB2B4 : bB2 < bB4 := by have := B2.lt; omega
  have nB3B4 : bB3 < bB4 := by have := B3.lt; omega
  replace gB4 := Nat.le_trans HB.size gB4
  replace HB := HB.trans (hb.mono HB.size)
  replace B1 := B1.below hb
  replace B2 := B2.below hb
  replace B3 := B3.below hb
  clear hb
  refine W_cpT (cs := wantC ⟨0, false, 1, false, true, false, false⟩) hA rfl rfl rfl rfl rfl B4 (by kernel_rfl) rfl (by simp [Value.oneCell']) (fun w17 hT HN => ?_)
  replace HB := HB.trans (hT.bel _ gB4)
  replace B1 := hT.row B1 (by omega)
  replace B2 := hT.row B2 (by omega)
  replace B3 := hT.row B3 (by omega)
  replace B4 := HN
  clear hT HN
  refine W_nil ?_
  refine then_nrm ?_
  show Code.wp Try.prog _ _ _ _
  refine wp_seq ?_
  refine wp_region_list ?_
  refine W_val hA rfl 38 rfl (by decide) _ _ (R_build (ps := [(0, .const (.int .u8 2)), (2, .const (.int .u8 1)), (4, .const (.bool true))]) hA rfl [(0, .int .u8 2), (2, .int .u8 1), (4, .bool true)] rfl (cs := wantC ⟨2, false, 1, false, true, false, false⟩) (by kernel_rfl) _) (fun a hA => ?_)
  refine W_allocT (cs := #[.int .u8 0, .bool false, .int .u8 0, .bool false, .bool false, .bool false, .bool false]) hA rfl 5 rfl (by decide) rfl zero_want (fun w18 bB5 a hA hb B5 gB5 => ?_)
  have nB1B5 : bB1 < bB5 := by have := B1.lt; omega
  have nB2B5 : bB2 < bB5 := by have := B2.lt; omega
  have nB3B5 : bB3 < bB5 := by have := B3.lt; omega
  have nB4B5 : bB4 < bB5 := by have := B4.lt; omega
  replace gB5 := Nat.le_trans HB.size gB5
  replace HB := HB.trans (hb.mono HB.size)
  replace B1 := B1.below hb
  replace B2 := B2.below hb
  replace B3 := B3.below hb
  replace B4 := B4.below hb
  clear hb
  refine W_cpT (cs := wantC ⟨2, false, 1, false, true, false, false⟩) hA rfl rfl rfl rfl rfl B5 (by kernel_rfl) rfl (by simp [Value.oneCell']) (fun w19 hT HN => ?_)
  replace HB := HB.trans (hT.bel _ gB5)
  replace B1 := hT.row B1 (by omega)
  replace B2 := hT.row B2 (by omega)
  replace B3 := hT.row B3 (by omega)
  replace B4 := hT.row B4 (by omega)
  replace B5 := HN
  clear hT HN
  refine W_nil ?_
  refine then_nrm ?_
  show Code.wp Try.prog _ _ _ _
  refine wp_seq ?_
  refine wp_seq ?_
  refine wp_region_list ?_
  refine W_val hA rfl 39 rfl (by decide) _ _ (R_row hA rfl rfl B1 Try.underlying25 (by kernel_rfl)) (fun a hA => ?_)
  refine W_callA hA (by decide) (fun _ _ => by kernel_rfl) (args2 hA rfl rfl) (allow_to (r := true) (by unfold In64; decide) (wok_lit _ _ _ _ _ _ _ (by decide) (by decide)) (by decide +kernel) _) (fun w20 hw a hA => ?_)
  replace HB := HB.trans (hw.mono HB.size)
  replace B1 := B1.below hw
  replace B2 := B2.below hw
  replace B3 := B3.below hw
  replace B4 := B4.below hw
  replace B5 := B5.below hw
  clear hw
  refine W_val hA rfl 41 rfl (by decide) _ _ (R_not hA rfl rfl _) (fun a hA => ?_)
  refine W_val hA rfl 42 rfl (by decide) _ _ (R_mov hA rfl rfl _) (fun a hA => ?_)
  refine W_gval hA rfl rfl rfl 43 rfl (by decide) _ _ (R_row hA rfl rfl B1 Try.underlying25 (by kernel_rfl)) (fun a hA => ?_)
  refine W_gcallB hA rfl rfl (by decide) (fun _ _ => by kernel_rfl) (args2 hA rfl rfl) (allow_to (r := false) (by unfold In64; decide) (wok_lit _ _ _ _ _ _ _ (by decide) (by decide)) (by decide +kernel) _) (fun w21 hw a hA => ?_)
  replace HB := HB.trans (hw.mono HB.size)
  replace B1 := B1.below hw
  replace B2 := B2.below hw
  replace B3 := B3.below hw
  replace B4 := B4.below hw
  replace B5 := B5.below hw
  clear hw
  refine W_val hA rfl 45 rfl (by decide) _ _ (R_pick hA rfl rfl rfl _) (fun a hA => ?_)
  refine W_val hA rfl 46 rfl (by decide) _ _ (R_mov hA rfl rfl _) (fun a hA => ?_)
  refine W_gval hA rfl rfl rfl 47 rfl (by decide) _ _ (R_row hA rfl rfl B1 Try.underlying25 (by kernel_rfl)) (fun a hA => ?_)
  refine W_gcallB hA rfl rfl (by decide) (fun _ _ => by kernel_rfl) (args2 hA rfl rfl) (allow_to (r := false) (by unfold In64; decide) (wok_lit _ _ _ _ _ _ _ (by decide) (by decide)) (by decide +kernel) _) (fun w22 hw a hA => ?_)
  replace HB := HB.trans (hw.mono HB.size)
  replace B1 := B1.below hw
  replace B2 := B2.below hw
  replace B3 := B3.below hw
  replace B4 := B4.below hw
  replace B5 := B5.below hw
  clear hw
  refine W_val hA rfl 49 rfl (by decide) _ _ (R_pick hA rfl rfl rfl _) (fun a hA => ?_)
  refine W_val hA rfl 50 rfl (by decide) _ _ (R_mov hA rfl rfl _) (fun a hA => ?_)
  refine W_gval hA rfl rfl rfl 51 rfl (by decide) _ _ (R_row hA rfl rfl B2 Try.underlying25 (by kernel_rfl)) (fun a hA => ?_)
  refine W_gcallB hA rfl rfl (by decide) (fun _ _ => by kernel_rfl) (args2 hA rfl rfl) (allow_to (r := true) (by unfold In64; decide) (wok_lit _ _ _ _ _ _ _ (by decide) (by decide)) (by decide +kernel) _) (fun w23 hw a hA => ?_)
  replace HB := HB.trans (hw.mono HB.size)
  replace B1 := B1.below hw
  replace B2 := B2.below hw
  replace B3 := B3.below hw
  replace B4 := B4.below hw
  replace B5 := B5.below hw
  clear hw
  refine W_gval hA rfl rfl rfl 53 rfl (by decide) _ _ (R_not hA rfl rfl _) (fun a hA => ?_)
  refine W_val hA rfl 54 rfl (by decide) _ _ (R_pick hA rfl rfl rfl _) (fun a hA => ?_)
  refine W_val hA rfl 55 rfl (by decide) _ _ (R_mov hA rfl rfl _) (fun a hA => ?_)
  refine W_gval hA rfl rfl rfl 56 rfl (by decide) _ _ (R_row hA rfl rfl B3 Try.underlying25 (by kernel_rfl)) (fun a hA => ?_)
  refine W_gcallB hA rfl rfl (by decide) (fun _ _ => by kernel_rfl) (args2 hA rfl rfl) (allow_to (r := false) (by unfold In64; decide) (wok_lit _ _ _ _ _ _ _ (by decide) (by decide)) (by decide +kernel) _) (fun w24 hw a hA => ?_)
  replace HB := HB.trans (hw.mono HB.size)
  replace B1 := B1.below hw
  replace B2 := B2.below hw
  replace B3 := B3.below hw
  replace B4 := B4.below hw
  replace B5 := B5.below hw
  clear hw
  refine W_val hA rfl 58 rfl (by decide) _ _ (R_pick hA rfl rfl rfl _) (fun a hA => ?_)
  refine W_val hA rfl 59 rfl (by decide) _ _ (R_mov hA rfl rfl _) (fun a hA => ?_)
  refine W_gval hA rfl rfl rfl 60 rfl (by decide) _ _ (R_row hA rfl rfl B4 Try.underlying25 (by kernel_rfl)) (fun a hA => ?_)
  refine W_gcallB hA rfl rfl (by decide) (fun _ _ => by kernel_rfl) (args2 hA rfl rfl) (allow_to (r := true) (by unfold In64; decide) (wok_lit _ _ _ _ _ _ _ (by decide) (by decide)) (by decide +kernel) _) (fun w25 hw a hA => ?_)
  replace HB := HB.trans (hw.mono HB.size)
  replace B1 := B1.below hw
  replace B2 := B2.below hw
  replace B3 := B3.below hw
  replace B4 := B4.below hw
  replace B5 := B5.below hw
  clear hw
  refine W_gval hA rfl rfl rfl 62 rfl (by decide) _ _ (R_not hA rfl rfl _) (fun a hA => ?_)
  refine W_val hA rfl 63 rfl (by decide) _ _ (R_pick hA rfl rfl rfl _) (fun a hA => ?_)
  refine W_val hA rfl 64 rfl (by decide) _ _ (R_mov hA rfl rfl _) (fun a hA => ?_)
  refine W_gval hA rfl rfl rfl 65 rfl (by decide) _ _ (R_row hA rfl rfl B5 Try.underlying25 (by kernel_rfl)) (fun a hA => ?_)
  refine W_gcallB hA rfl rfl (by decide) (fun _ _ => by kernel_rfl) (args2 hA rfl rfl) (allow_to (r := false) (by unfold In64; decide) (wok_lit _ _ _ _ _ _ _ (by decide) (by decide)) (by decide +kernel) _) (fun w26 hw a hA => ?_)
  replace HB := HB.trans (hw.mono HB.size)
  replace B1 := B1.below hw
  replace B2 := B2.below hw
  replace B3 := B3.below hw
  replace B4 := B4.below hw
  replace B5 := B5.below hw
  clear hw
  refine W_val hA rfl 67 rfl (by decide) _ _ (R_pick hA rfl rfl rfl _) (fun a hA => ?_)
  refine W_val hA rfl 68 rfl (by decide) _ _ (R_mov hA rfl rfl _) (fun a hA => ?_)
  refine W_gval hA rfl rfl rfl 69 rfl (by decide) _ _ (R_row hA rfl rfl B5 Try.underlying25 (by kernel_rfl)) (fun a hA => ?_)
  refine W_gcallB hA rfl rfl (by decide) (fun _ _ => by kernel_rfl) (args2 hA rfl rfl) (allow_to (r := true) (by unfold In64; decide) (wok_lit _ _ _ _ _ _ _ (by decide) (by decide)) (by decide +kernel) _) (fun w27 hw a hA => ?_)
  replace HB := HB.trans (hw.mono HB.size)
  replace B1 := B1.below hw
  replace B2 := B2.below hw
  replace B3 := B3.below hw
  replace B4 := B4.below hw
  replace B5 := B5.below hw
  clear hw
  refine W_gval hA rfl rfl rfl 71 rfl (by decide) _ _ (R_not hA rfl rfl _) (fun a hA => ?_)
  refine W_val hA rfl 72 rfl (by decide) _ _ (R_pick hA rfl rfl rfl _) (fun a hA => ?_)
  refine W_nil ?_
  refine then_nrm ?_
  show Code.wp Try.prog _ _ _ _
  refine wp_cond_false (hA.ev (x := .tmp 72) rfl) ?_
  refine wp_skip ?_
  refine then_nrm ?_
  show Code.wp Try.prog _ _ _ _
  refine wp_seq ?_
  refine wp_seq ?_
  refine wp_region_list ?_
  refine W_val hA rfl 73 rfl (by decide) _ _ (R_row hA rfl rfl B3 Try.underlying25 (by kernel_rfl)) (fun a hA => ?_)
  refine W_callA hA (by decide) (fun _ _ => by kernel_rfl) (args3 hA rfl rfl rfl) (judge_to (r := 0) (by unfold In64; decide) (wok_lit _ _ _ _ _ _ _ (by decide) (by decide)) (by decide +kernel) _) (fun w28 hw a hA => ?_)
  replace HB := HB.trans (hw.mono HB.size)
  replace B1 := B1.below hw
  replace B2 := B2.below hw
  replace B3 := B3.below hw
  replace B4 := B4.below hw
  replace B5 := B5.below hw
  clear hw
  refine W_val hA rfl 75 rfl (by decide) _ _ (R_neqIT hA rfl rfl rfl false (by decide) _) (fun a hA => ?_)
  refine W_val hA rfl 76 rfl (by decide) _ _ (R_mov hA rfl rfl _) (fun a hA => ?_)
  refine W_gval hA rfl rfl rfl 77 rfl (by decide) _ _ (R_row hA rfl rfl B3 Try.underlying25 (by kernel_rfl)) (fun a hA => ?_)
  refine W_gcallB hA rfl rfl (by decide) (fun _ _ => by kernel_rfl) (args3 hA rfl rfl rfl) (judge_to (r := 1) (by unfold In64; decide) (wok_lit _ _ _ _ _ _ _ (by decide) (by decide)) (by decide +kernel) _) (fun w29 hw a hA => ?_)
  replace HB := HB.trans (hw.mono HB.size)
  replace B1 := B1.below hw
  replace B2 := B2.below hw
  replace B3 := B3.below hw
  replace B4 := B4.below hw
  replace B5 := B5.below hw
  clear hw
  refine W_gval hA rfl rfl rfl 79 rfl (by decide) _ _ (R_neqIT hA rfl rfl rfl false (by decide) _) (fun a hA => ?_)
  refine W_val hA rfl 80 rfl (by decide) _ _ (R_pick hA rfl rfl rfl _) (fun a hA => ?_)
  refine W_val hA rfl 81 rfl (by decide) _ _ (R_mov hA rfl rfl _) (fun a hA => ?_)
  refine W_gval hA rfl rfl rfl 82 rfl (by decide) _ _ (R_row hA rfl rfl B3 Try.underlying25 (by kernel_rfl)) (fun a hA => ?_)
  refine W_gcallB hA rfl rfl (by decide) (fun _ _ => by kernel_rfl) (args3 hA rfl rfl rfl) (judge_to (r := 2) (by unfold In64; decide) (wok_lit _ _ _ _ _ _ _ (by decide) (by decide)) (by decide +kernel) _) (fun w30 hw a hA => ?_)
  replace HB := HB.trans (hw.mono HB.size)
  replace B1 := B1.below hw
  replace B2 := B2.below hw
  replace B3 := B3.below hw
  replace B4 := B4.below hw
  replace B5 := B5.below hw
  clear hw
  refine W_gval hA rfl rfl rfl 84 rfl (by decide) _ _ (R_neqIT hA rfl rfl rfl false (by decide) _) (fun a hA => ?_)
  refine W_val hA rfl 85 rfl (by decide) _ _ (R_pick hA rfl rfl rfl _) (fun a hA => ?_)
  refine W_val hA rfl 86 rfl (by decide) _ _ (R_mov hA rfl rfl _) (fun a hA => ?_)
  refine W_gval hA rfl rfl rfl 87 rfl (by decide) _ _ (R_row hA rfl rfl B3 Try.underlying25 (by kernel_rfl)) (fun a hA => ?_)
  refine W_gcallB hA rfl rfl (by decide) (fun _ _ => by kernel_rfl) (args3 hA rfl rfl rfl) (judge_to (r := 0) (by unfold In64; decide) (wok_lit _ _ _ _ _ _ _ (by decide) (by decide)) (by decide +kernel) _) (fun w31 hw a hA => ?_)
  replace HB := HB.trans (hw.mono HB.size)
  replace B1 := B1.below hw
  replace B2 := B2.below hw
  replace B3 := B3.below hw
  replace B4 := B4.below hw
  replace B5 := B5.below hw
  clear hw
  refine W_gval hA rfl rfl rfl 89 rfl (by decide) _ _ (R_neqIT hA rfl rfl rfl false (by decide) _) (fun a hA => ?_)
  refine W_val hA rfl 90 rfl (by decide) _ _ (R_pick hA rfl rfl rfl _) (fun a hA => ?_)
  refine W_val hA rfl 91 rfl (by decide) _ _ (R_mov hA rfl rfl _) (fun a hA => ?_)
  refine W_gval hA rfl rfl rfl 92 rfl (by decide) _ _ (R_row hA rfl rfl B3 Try.underlying25 (by kernel_rfl)) (fun a hA => ?_)
  refine W_gcallB hA rfl rfl (by decide) (fun _ _ => by kernel_rfl) (args3 hA rfl rfl rfl) (judge_to (r := 0) (by unfold In64; decide) (wok_lit _ _ _ _ _ _ _ (by decide) (by decide)) (by decide +kernel) _) (fun w32 hw a hA => ?_)
  replace HB := HB.trans (hw.mono HB.size)
  replace B1 := B1.below hw
  replace B2 := B2.below hw
  replace B3 := B3.below hw
  replace B4 := B4.below hw
  replace B5 := B5.below hw
  clear hw
  refine W_gval hA rfl rfl rfl 94 rfl (by decide) _ _ (R_neqIT hA rfl rfl rfl false (by decide) _) (fun a hA => ?_)
  refine W_val hA rfl 95 rfl (by decide) _ _ (R_pick hA rfl rfl rfl _) (fun a hA => ?_)
  refine W_nil ?_
  refine then_nrm ?_
  show Code.wp Try.prog _ _ _ _
  refine wp_cond_false (hA.ev (x := .tmp 95) rfl) ?_
  refine wp_skip ?_
  refine then_nrm ?_
  show Code.wp Try.prog _ _ _ _
  refine wp_seq ?_
  refine wp_seq ?_
  refine wp_region_held_drew (S := fun wx => Below w32.heap.size w32 wx) (by kernel_rfl) ((Below.refl _ _).drew) (fun hS => ?_)
  refine takeF (i := 1) hA 97 rfl rfl (by decide) rfl (by kernel_rfl) (by kernel_rfl) (by kernel_rfl) (fun _ _ _ h => h) hS (fun wx hwx => R_row hA rfl rfl (B3.below hwx) Try.underlying25 (by kernel_rfl)) (fun a hA => ?_)
  refine wpAnyH_ready (rs := [0]) (by kernel_rfl) (by simp) (ready_call (i := 0) hA (by decide) rfl (fun _ _ => by kernel_rfl) (args2 hA rfl rfl) (make_to (r := 524355) (by unfold In64; decide) (by unfold In64; decide) (by decide +kernel) _) (fun _ h => hS.trans (h.mono hS.size)) (fun w33 hw a hA => ?_) AllReadyH.nil)
  replace hS := hS.trans (hw.mono hS.size)
  clear hw
  refine wpAnyH_ready (rs := [2]) (by kernel_rfl) (by simp) (ready_call (i := 2) hA (by decide) rfl (fun _ _ => by kernel_rfl) (args3 hA rfl rfl rfl) (judge_to (r := 2) (by unfold In64; decide) (wok_lit _ _ _ _ _ _ _ (by decide) (by decide)) (by decide +kernel) _) (fun _ h => hS.trans (h.mono hS.size)) (fun w34 hw a hA => ?_) AllReadyH.nil)
  replace hS := hS.trans (hw.mono hS.size)
  clear hw
  refine takeF (i := 3) hA 99 rfl rfl (by decide) rfl (by kernel_rfl) (by kernel_rfl) (by kernel_rfl) (fun _ _ _ h => h) hS (fun wx hwx => R_neqIT hA rfl rfl rfl false (by decide) _) (fun a hA => ?_)
  refine takeF (i := 4) hA 100 rfl rfl (by decide) rfl (by kernel_rfl) (by kernel_rfl) (by kernel_rfl) (fun _ _ _ h => h) hS (fun wx hwx => R_mov hA rfl rfl _) (fun a hA => ?_)
  refine takeFg (i := 6) hA 102 rfl rfl (by decide) rfl rfl rfl (by kernel_rfl) (by kernel_rfl) (by kernel_rfl) (fun _ _ _ h => h) hS (fun wx hwx => R_row hA rfl rfl (B3.below hwx) Try.underlying25 (by kernel_rfl)) (fun a hA => ?_)
  refine wpAnyH_ready (rs := [5]) (by kernel_rfl) (by simp) (ready_gcall (i := 5) hA (by decide) rfl rfl rfl (fun _ _ => by kernel_rfl) (args2 hA rfl rfl) (make_to (r := 1091) (by unfold In64; decide) (by unfold In64; decide) (by decide +kernel) _) (fun _ h => hS.trans (h.mono hS.size)) (fun w35 hw a hA => ?_) AllReadyH.nil)
  replace hS := hS.trans (hw.mono hS.size)
  clear hw
  refine wpAnyH_ready (rs := [7]) (by kernel_rfl) (by simp) (ready_gcall (i := 7) hA (by decide) rfl rfl rfl (fun _ _ => by kernel_rfl) (args3 hA rfl rfl rfl) (judge_to (r := 0) (by unfold In64; decide) (wok_lit _ _ _ _ _ _ _ (by decide) (by decide)) (by decide +kernel) _) (fun _ h => hS.trans (h.mono hS.size)) (fun w36 hw a hA => ?_) AllReadyH.nil)
  replace hS := hS.trans (hw.mono hS.size)
  clear hw
  refine takeFg (i := 8) hA 104 rfl rfl (by decide) rfl rfl rfl (by kernel_rfl) (by kernel_rfl) (by kernel_rfl) (fun _ _ _ h => h) hS (fun wx hwx => R_neqIT hA rfl rfl rfl false (by decide) _) (fun a hA => ?_)
  refine takeF (i := 9) hA 105 rfl rfl (by decide) rfl (by kernel_rfl) (by kernel_rfl) (by kernel_rfl) (fun _ _ _ h => h) hS (fun wx hwx => R_pick hA rfl rfl rfl _) (fun a hA => ?_)
  refine takeF (i := 10) hA 106 rfl rfl (by decide) rfl (by kernel_rfl) (by kernel_rfl) (by kernel_rfl) (fun _ _ _ h => h) hS (fun wx hwx => R_mov hA rfl rfl _) (fun a hA => ?_)
  refine takeFg (i := 12) hA 108 rfl rfl (by decide) rfl rfl rfl (by kernel_rfl) (by kernel_rfl) (by kernel_rfl) (fun _ _ _ h => h) hS (fun wx hwx => R_row hA rfl rfl (B3.below hwx) Try.underlying25 (by kernel_rfl)) (fun a hA => ?_)
  refine wpAnyH_ready (rs := [11]) (by kernel_rfl) (by simp) (ready_gcall (i := 11) hA (by decide) rfl rfl rfl (fun _ _ => by kernel_rfl) (args2 hA rfl rfl) (make_to (r := 1091) (by unfold In64; decide) (by unfold In64; decide) (by decide +kernel) _) (fun _ h => hS.trans (h.mono hS.size)) (fun w37 hw a hA => ?_) AllReadyH.nil)
  replace hS := hS.trans (hw.mono hS.size)
  clear hw
  refine wpAnyH_ready (rs := [13]) (by kernel_rfl) (by simp) (ready_gcall (i := 13) hA (by decide) rfl rfl rfl (fun _ _ => by kernel_rfl) (args3 hA rfl rfl rfl) (judge_to (r := 2) (by unfold In64; decide) (wok_lit _ _ _ _ _ _ _ (by decide) (by decide)) (by decide +kernel) _) (fun _ h => hS.trans (h.mono hS.size)) (fun w38 hw a hA => ?_) AllReadyH.nil)
  replace hS := hS.trans (hw.mono hS.size)
  clear hw
  refine takeFg (i := 14) hA 110 rfl rfl (by decide) rfl rfl rfl (by kernel_rfl) (by kernel_rfl) (by kernel_rfl) (fun _ _ _ h => h) hS (fun wx hwx => R_neqIT hA rfl rfl rfl false (by decide) _) (fun a hA => ?_)
  refine takeF (i := 15) hA 111 rfl rfl (by decide) rfl (by kernel_rfl) (by kernel_rfl) (by kernel_rfl) (fun _ _ _ h => h) hS (fun wx hwx => R_pick hA rfl rfl rfl _) (fun a hA => ?_)
  refine wpAnyH_done (by kernel_rfl) ?_ _
  replace B1 := B1.below hS
  replace B2 := B2.below hS
  replace B3 := B3.below hS
  replace B4 := B4.below hS
  replace B5 := B5.below hS
  replace HB := HB.trans (hS.mono HB.size)
  clear hS
  refine then_nrm ?_
  show Code.wp Try.prog _ _ _ _
  refine wp_cond_false (hA.ev (x := .tmp 111) rfl) ?_
  refine wp_skip ?_
  refine then_nrm ?_
  show Code.wp Try.prog _ _ _ _
  refine wp_seq ?_
  refine wp_region_list ?_
  refine W_val hA rfl 112 rfl (by decide) _ _ (R_mov hA rfl rfl _) (fun a hA => ?_)
  refine W_gcallB hA rfl rfl (by decide) (fun _ _ => by kernel_rfl) (args0 ) (awake_any _) (fun w39 hw a hA => ?_)
  replace HB := HB.trans (hw.mono HB.size)
  replace B1 := B1.below hw
  replace B2 := B2.below hw
  replace B3 := B3.below hw
  replace B4 := B4.below hw
  replace B5 := B5.below hw
  clear hw
  refine W_val hA rfl 114 rfl (by decide) _ _ (R_pick hA rfl rfl rfl _) (fun a hA => ?_)
  refine W_val hA rfl 115 rfl (by decide) _ _ (R_mov hA rfl rfl _) (fun a hA => ?_)
  refine W_gcallB hA rfl rfl (by decide) (fun _ _ => by kernel_rfl) (args2 hA rfl rfl) (index_to (r := 1) (by unfold In64; decide) (by decide +kernel) _) (fun w40 hw a hA => ?_)
  replace HB := HB.trans (hw.mono HB.size)
  replace B1 := B1.below hw
  replace B2 := B2.below hw
  replace B3 := B3.below hw
  replace B4 := B4.below hw
  replace B5 := B5.below hw
  clear hw
  refine W_gval hA rfl rfl rfl 117 rfl (by decide) _ _ (R_eqlUT hA rfl rfl rfl true (by decide) _) (fun a hA => ?_)
  refine W_val hA rfl 118 rfl (by decide) _ _ (R_pick hA rfl rfl rfl _) (fun a hA => ?_)
  refine W_val hA rfl 119 rfl (by decide) _ _ (R_mov hA rfl rfl _) (fun a hA => ?_)
  refine W_gcallB hA rfl rfl (by decide) (fun _ _ => by kernel_rfl) (args2 hA rfl rfl) (index_to (r := 1) (by unfold In64; decide) (by decide +kernel) _) (fun w41 hw a hA => ?_)
  replace HB := HB.trans (hw.mono HB.size)
  replace B1 := B1.below hw
  replace B2 := B2.below hw
  replace B3 := B3.below hw
  replace B4 := B4.below hw
  replace B5 := B5.below hw
  clear hw
  refine W_gval hA rfl rfl rfl 121 rfl (by decide) _ _ (R_eqlUT hA rfl rfl rfl true (by decide) _) (fun a hA => ?_)
  refine W_val hA rfl 122 rfl (by decide) _ _ (R_pick hA rfl rfl rfl _) (fun a hA => ?_)
  refine W_val hA rfl 123 rfl (by decide) _ _ (R_mov hA rfl rfl _) (fun a hA => ?_)
  refine W_gcallB hA rfl rfl (by decide) (fun _ _ => by kernel_rfl) (args2 hA rfl rfl) (index_to (r := 1) (by unfold In64; decide) (by decide +kernel) _) (fun w42 hw a hA => ?_)
  replace HB := HB.trans (hw.mono HB.size)
  replace B1 := B1.below hw
  replace B2 := B2.below hw
  replace B3 := B3.below hw
  replace B4 := B4.below hw
  replace B5 := B5.below hw
  clear hw
  refine W_gval hA rfl rfl rfl 125 rfl (by decide) _ _ (R_eqlUT hA rfl rfl rfl true (by decide) _) (fun a hA => ?_)
  refine W_val hA rfl 126 rfl (by decide) _ _ (R_pick hA rfl rfl rfl _) (fun a hA => ?_)
  refine W_val hA rfl 127 rfl (by decide) _ _ (R_mov hA rfl rfl _) (fun a hA => ?_)
  refine W_gcallB hA rfl rfl (by decide) (fun _ _ => by kernel_rfl) (args2 hA rfl rfl) (make_to (r := 524289) (by unfold In64; decide) (by unfold In64; decide) (by decide +kernel) _) (fun w43 hw a hA => ?_)
  replace HB := HB.trans (hw.mono HB.size)
  replace B1 := B1.below hw
  replace B2 := B2.below hw
  replace B3 := B3.below hw
  replace B4 := B4.below hw
  replace B5 := B5.below hw
  clear hw
  refine W_gcallB hA rfl rfl (by decide) (fun _ _ => by kernel_rfl) (args3 hA rfl rfl rfl) (pa_to (r := 2101812) (by unfold In64; decide) (by unfold In64; decide) (by decide +kernel) _) (fun w44 hw a hA => ?_)
  replace HB := HB.trans (hw.mono HB.size)
  replace B1 := B1.below hw
  replace B2 := B2.below hw
  replace B3 := B3.below hw
  replace B4 := B4.below hw
  replace B5 := B5.below hw
  clear hw
  refine W_gval hA rfl rfl rfl 130 rfl (by decide) _ _ (R_eqlUT hA rfl rfl rfl true (by decide) _) (fun a hA => ?_)
  refine W_val hA rfl 131 rfl (by decide) _ _ (R_pick hA rfl rfl rfl _) (fun a hA => ?_)
  refine W_val hA rfl 0 rfl (by decide) _ _ (R_asg hA rfl rfl _) (fun a hA => ?_)
  refine W_nil ?_
  refine then_nrm ?_
  show Code.wp Try.prog _ _ _ _
  refine wp_ret ?_
  exact ret_tmp (j := 0) (by kernel_rfl) hA (by decide) rfl ⟨rfl, HB⟩
end Go.Proofs.YtflaadnlmcgfoaaR
