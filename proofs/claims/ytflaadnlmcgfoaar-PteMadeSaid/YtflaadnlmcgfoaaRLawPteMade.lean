/- Layer 15: the walk of PteMade (written by gen_ptc.py by walkt.py). -/
import Derived.Test.YtflaadnlmcgfoaaRPtC
namespace Go.Proofs.YtflaadnlmcgfoaaR
open Go.RowKit
set_option linter.unusedVariables false
set_option maxRecDepth 100000

theorem page_make (p f : Int) : pageZ (makeZ p f) = p % 17592186044416 := by unfold pageZ makeZ; omega
theorem mk1 {p f : Int} (hp : In64 p) : (pageZ (makeZ p f) != bits .and .u64 p 17592186044415) = false := by
  rw [page_make, bz_mask hp 44 (by decide) _ (by decide)]; exact bne_self_eq_false _
theorem mk2 {p f : Int} (hf : In64 f) : (bits .and .u64 (makeZ p f) 255 != bits .and .u64 f 255) = false := by
  rw [bz_mask (make_in p f) 8 (by decide) _ (by decide), bz_mask hf 8 (by decide) _ (by decide)]
  have : makeZ p f % 2 ^ 8 = f % 2 ^ 8 := by unfold makeZ; omega
  rw [this]; exact bne_self_eq_false _
theorem mk3 (p f : Int) : (makeZ p f / 2 ^ 54 != 0) = false := by
  have : makeZ p f / 2 ^ 54 = 0 := by unfold makeZ; omega
  rw [this]; rfl
theorem mk4 (p f : Int) : (bits .and .u64 (makeZ p f) 768 != 0) = false := by
  have : bits .and .u64 (makeZ p f) 768 = 0 := bz_ext (bz_inA _ _) (by unfold In64; decide) fun i hi => by
    rw [bz_and, (by decide +kernel : ∀ i, i < 64 → bitZ 768 i = (decide (i = 8) || decide (i = 9))) i hi, show bitZ 0 i = false from by unfold bitZ; rw [V_zero]; simp]
    by_cases h8 : i = 8
    · subst h8; rw [bz_div (make_in p f)]; unfold makeZ; simp; omega
    · by_cases h9 : i = 9
      · subst h9; rw [bz_div (make_in p f)]; unfold makeZ; simp; omega
      · simp [h8, h9]
  rw [this]; rfl
theorem mk5 (p f : Int) : (makeZ (pageZ (makeZ p f)) (makeZ p f) != makeZ p f) = false := by
  have : makeZ (pageZ (makeZ p f)) (makeZ p f) = makeZ p f := by rw [page_make]; unfold makeZ; omega
  rw [this]; exact bne_self_eq_false _
theorem index_lt (a lv : Int) : 0 ≤ indexZ a lv ∧ indexZ a lv < 512 := by unfold indexZ; omega
theorem mk6 {a : Int} (ha : In64 a) : (indexZ a 2 * 1073741824 + indexZ a 1 * 2097152 + indexZ a 0 * 4096 + bits .and .u64 a 4095 == bits .and .u64 a 549755813887) = true := by
  rw [bz_mask ha 12 (by decide) _ (by decide), bz_mask ha 39 (by decide) _ (by decide)]
  have h2 : indexZ a 2 = a / 4096 / 262144 % 512 := rfl
  have h1 : indexZ a 1 = a / 4096 / 512 % 512 := rfl
  have h0 : indexZ a 0 = a / 4096 / 1 % 512 := rfl
  rw [h2, h1, h0, beq_iff_eq]
  unfold In64 at ha
  omega
theorem low_lt {a : Int} (ha : In64 a) : 0 ≤ bits .and .u64 a 4095 ∧ bits .and .u64 a 4095 < 4096 := by
  rw [bz_mask ha 12 (by decide) _ (by decide)]; omega
set_option maxHeartbeats 8000000 in
theorem pteMade_walk (p f y : Int) (w : World) (hp : In64 p) (hf : In64 f) (ha : In64 y) : Calls Try.prog 9 #[.int .u64 p, .int .u64 f, .int .u64 y] w fun e w' => e = .returned (.bool true) ∧ Below w.heap.size w w' := by
  have HB := Below.refl w.heap.size w
  go_enter Try.func9, Try.ntmps9
  refine begin_fr [(2, .int .u64 y), (1, .int .u64 f), (0, .int .u64 p)] 60 ?_ (fun a hA => ?_)
  · exact FrA.add (FrA.add (FrA.add (FrA.nil (by rfl) (by rfl)) 0 _ (by rfl)) 1 _ (by rfl)) 2 _ (by rfl)
  refine wp_seq ?_
  refine wp_region_list ?_
  refine W_val hA rfl 6 rfl (by decide) _ _ (R_asg hA rfl rfl _) (fun a hA => ?_)
  refine W_nil ?_
  refine then_nrm ?_
  show Code.wp Try.prog _ _ _ _
  refine wp_seq ?_
  refine wp_seq ?_
  refine wp_region_list ?_
  refine W_callA hA (by decide) (fun _ _ => by kernel_rfl) (args0 ) (awake_any _) (fun w1 hw a hA => ?_)
  replace HB := HB.trans (hw.mono HB.size)
  clear hw
  refine W_val hA rfl 9 rfl (by decide) _ _ (R_not hA rfl rfl _) (fun a hA => ?_)
  refine W_nil ?_
  refine then_nrm ?_
  show Code.wp Try.prog _ _ _ _
  refine wp_cond_false (hA.ev (x := .tmp 9) rfl) ?_
  refine wp_skip ?_
  refine then_nrm ?_
  show Code.wp Try.prog _ _ _ _
  refine wp_seq ?_
  refine wp_region_list ?_
  refine W_val hA rfl 10 rfl (by decide) _ _ (R_mov hA rfl rfl _) (fun a hA => ?_)
  refine W_val hA rfl 11 rfl (by decide) _ _ (R_mov hA rfl rfl _) (fun a hA => ?_)
  refine W_callA hA (by decide) (fun _ _ => by kernel_rfl) (args2 hA rfl rfl) (make_any p f hp hf _) (fun w2 hw a hA => ?_)
  replace HB := HB.trans (hw.mono HB.size)
  clear hw
  refine W_val hA rfl 7 rfl (by decide) _ _ (R_asg hA rfl rfl _) (fun a hA => ?_)
  refine W_nil ?_
  refine then_nrm ?_
  show Code.wp Try.prog _ _ _ _
  refine wp_seq ?_
  refine wp_seq ?_
  refine wp_region_list ?_
  refine W_val hA rfl 13 rfl (by decide) _ _ (R_mov hA rfl rfl _) (fun a hA => ?_)
  refine W_callA hA (by decide) (fun _ _ => by kernel_rfl) (args1 hA rfl) (page_any _ (make_in p f) _) (fun w3 hw a hA => ?_)
  replace HB := HB.trans (hw.mono HB.size)
  clear hw
  refine W_val hA rfl 15 rfl (by decide) _ _ (R_mov hA rfl rfl _) (fun a hA => ?_)
  refine W_val hA rfl 16 rfl (by decide) _ _ (R_and hA rfl rfl rfl _) (fun a hA => ?_)
  refine W_val hA rfl 17 rfl (by decide) _ _ (R_neqUT hA rfl rfl rfl false (mk1 hp) _) (fun a hA => ?_)
  refine W_val hA rfl 18 rfl (by decide) _ _ (R_mov hA rfl rfl _) (fun a hA => ?_)
  refine W_gval hA rfl rfl rfl 19 rfl (by decide) _ _ (R_mov hA rfl rfl _) (fun a hA => ?_)
  refine W_gval hA rfl rfl rfl 20 rfl (by decide) _ _ (R_and hA rfl rfl rfl _) (fun a hA => ?_)
  refine W_gval hA rfl rfl rfl 21 rfl (by decide) _ _ (R_mov hA rfl rfl _) (fun a hA => ?_)
  refine W_gval hA rfl rfl rfl 22 rfl (by decide) _ _ (R_and hA rfl rfl rfl _) (fun a hA => ?_)
  refine W_gval hA rfl rfl rfl 23 rfl (by decide) _ _ (R_neqUT hA rfl rfl rfl false (mk2 hf) _) (fun a hA => ?_)
  refine W_val hA rfl 24 rfl (by decide) _ _ (R_pick hA rfl rfl rfl _) (fun a hA => ?_)
  refine W_val hA rfl 25 rfl (by decide) _ _ (R_mov hA rfl rfl _) (fun a hA => ?_)
  refine W_gval hA rfl rfl rfl 26 rfl (by decide) _ _ (R_mov hA rfl rfl _) (fun a hA => ?_)
  refine W_gval hA rfl rfl rfl 27 rfl (by decide) _ _ (R_shrN hA rfl 54 rfl (make_in p f).1 (by decide) rfl _) (fun a hA => ?_)
  refine W_gval hA rfl rfl rfl 28 rfl (by decide) _ _ (R_neqUT hA rfl rfl rfl false (mk3 p f) _) (fun a hA => ?_)
  refine W_val hA rfl 29 rfl (by decide) _ _ (R_pick hA rfl rfl rfl _) (fun a hA => ?_)
  refine W_val hA rfl 30 rfl (by decide) _ _ (R_mov hA rfl rfl _) (fun a hA => ?_)
  refine W_gval hA rfl rfl rfl 31 rfl (by decide) _ _ (R_mov hA rfl rfl _) (fun a hA => ?_)
  refine W_gval hA rfl rfl rfl 32 rfl (by decide) _ _ (R_and hA rfl rfl rfl _) (fun a hA => ?_)
  refine W_gval hA rfl rfl rfl 33 rfl (by decide) _ _ (R_neqUT hA rfl rfl rfl false (mk4 p f) _) (fun a hA => ?_)
  refine W_val hA rfl 34 rfl (by decide) _ _ (R_pick hA rfl rfl rfl _) (fun a hA => ?_)
  refine W_val hA rfl 35 rfl (by decide) _ _ (R_mov hA rfl rfl _) (fun a hA => ?_)
  refine W_gval hA rfl rfl rfl 36 rfl (by decide) _ _ (R_mov hA rfl rfl _) (fun a hA => ?_)
  refine W_gcallB hA rfl rfl (by decide) (fun _ _ => by kernel_rfl) (args1 hA rfl) (page_any _ (make_in p f) _) (fun w4 hw a hA => ?_)
  replace HB := HB.trans (hw.mono HB.size)
  clear hw
  refine W_gval hA rfl rfl rfl 38 rfl (by decide) _ _ (R_mov hA rfl rfl _) (fun a hA => ?_)
  refine W_gcallB hA rfl rfl (by decide) (fun _ _ => by kernel_rfl) (args2 hA rfl rfl) (make_any _ _ (page_in (make_in p f)) (make_in p f) _) (fun w5 hw a hA => ?_)
  replace HB := HB.trans (hw.mono HB.size)
  clear hw
  refine W_gval hA rfl rfl rfl 40 rfl (by decide) _ _ (R_mov hA rfl rfl _) (fun a hA => ?_)
  refine W_gval hA rfl rfl rfl 41 rfl (by decide) _ _ (R_neqUT hA rfl rfl rfl false (mk5 p f) _) (fun a hA => ?_)
  refine W_val hA rfl 42 rfl (by decide) _ _ (R_pick hA rfl rfl rfl _) (fun a hA => ?_)
  refine W_nil ?_
  refine then_nrm ?_
  show Code.wp Try.prog _ _ _ _
  refine wp_cond_false (hA.ev (x := .tmp 42) rfl) ?_
  refine wp_skip ?_
  refine then_nrm ?_
  show Code.wp Try.prog _ _ _ _
  refine wp_seq ?_
  refine wp_region_list ?_
  refine W_val hA rfl 43 rfl (by decide) _ _ (R_mov hA rfl rfl _) (fun a hA => ?_)
  refine W_callA hA (by decide) (fun _ _ => by kernel_rfl) (args2 hA rfl rfl) (index_any y 2 ha _) (fun w6 hw a hA => ?_)
  replace HB := HB.trans (hw.mono HB.size)
  clear hw
  refine W_val hA rfl 45 rfl (by decide) _ _ (R_shlT hA rfl 30 rfl (by decide) rfl (indexZ y 2 * 1073741824) (by have := index_lt y 2; rw [IntKind.wrap_u64]; omega) _) (fun a hA => ?_)
  refine W_val hA rfl 46 rfl (by decide) _ _ (R_mov hA rfl rfl _) (fun a hA => ?_)
  refine W_callA hA (by decide) (fun _ _ => by kernel_rfl) (args2 hA rfl rfl) (index_any y 1 ha _) (fun w7 hw a hA => ?_)
  replace HB := HB.trans (hw.mono HB.size)
  clear hw
  refine W_val hA rfl 48 rfl (by decide) _ _ (R_shlT hA rfl 21 rfl (by decide) rfl (indexZ y 1 * 2097152) (by have := index_lt y 1; rw [IntKind.wrap_u64]; omega) _) (fun a hA => ?_)
  refine W_val hA rfl 49 rfl (by decide) _ _ (R_addT hA rfl rfl rfl (indexZ y 2 * 1073741824 + indexZ y 1 * 2097152) (by have h2 := index_lt y 2; have h1 := index_lt y 1; have h0 := index_lt y 0; have hl := low_lt ha; rw [IntKind.wrap_u64]; omega) _) (fun a hA => ?_)
  refine W_val hA rfl 50 rfl (by decide) _ _ (R_mov hA rfl rfl _) (fun a hA => ?_)
  refine W_callA hA (by decide) (fun _ _ => by kernel_rfl) (args2 hA rfl rfl) (index_any y 0 ha _) (fun w8 hw a hA => ?_)
  replace HB := HB.trans (hw.mono HB.size)
  clear hw
  refine W_val hA rfl 52 rfl (by decide) _ _ (R_shlT hA rfl 12 rfl (by decide) rfl (indexZ y 0 * 4096) (by have := index_lt y 0; rw [IntKind.wrap_u64]; omega) _) (fun a hA => ?_)
  refine W_val hA rfl 53 rfl (by decide) _ _ (R_addT hA rfl rfl rfl (indexZ y 2 * 1073741824 + indexZ y 1 * 2097152 + indexZ y 0 * 4096) (by have h2 := index_lt y 2; have h1 := index_lt y 1; have h0 := index_lt y 0; have hl := low_lt ha; rw [IntKind.wrap_u64]; omega) _) (fun a hA => ?_)
  refine W_val hA rfl 54 rfl (by decide) _ _ (R_mov hA rfl rfl _) (fun a hA => ?_)
  refine W_val hA rfl 55 rfl (by decide) _ _ (R_and hA rfl rfl rfl _) (fun a hA => ?_)
  refine W_val hA rfl 56 rfl (by decide) _ _ (R_addT hA rfl rfl rfl (indexZ y 2 * 1073741824 + indexZ y 1 * 2097152 + indexZ y 0 * 4096 + bits .and .u64 y 4095) (by have h2 := index_lt y 2; have h1 := index_lt y 1; have h0 := index_lt y 0; have hl := low_lt ha; rw [IntKind.wrap_u64]; omega) _) (fun a hA => ?_)
  refine W_val hA rfl 57 rfl (by decide) _ _ (R_mov hA rfl rfl _) (fun a hA => ?_)
  refine W_val hA rfl 58 rfl (by decide) _ _ (R_and hA rfl rfl rfl _) (fun a hA => ?_)
  refine W_val hA rfl 59 rfl (by decide) _ _ (R_eqlUT hA rfl rfl rfl true (mk6 ha) _) (fun a hA => ?_)
  refine W_val hA rfl 6 rfl (by decide) _ _ (R_asg hA rfl rfl _) (fun a hA => ?_)
  refine W_nil ?_
  refine then_nrm ?_
  show Code.wp Try.prog _ _ _ _
  refine wp_ret ?_
  exact ret_tmp (j := 6) (by kernel_rfl) hA (by decide) rfl ⟨rfl, HB⟩
end Go.Proofs.YtflaadnlmcgfoaaR
