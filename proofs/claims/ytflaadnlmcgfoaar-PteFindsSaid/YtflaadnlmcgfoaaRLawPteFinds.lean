/- Layer 15: the walk of PteFinds (written by gen_ptc.py by walkt.py). -/
import Derived.Test.YtflaadnlmcgfoaaRPtC
namespace Go.Proofs.YtflaadnlmcgfoaaR
open Go.RowKit
set_option linter.unusedVariables false
set_option maxRecDepth 100000

theorem and3p {n : Int} (h : In63 n) : bits .and .i64 n 3 = n % 4 := by
  show IntKind.i64.wrap ((BitVec.ofInt 64 n &&& BitVec.ofInt 64 3).toNat : Int) = _
  have h3 : BitVec.ofInt 64 3 = BitVec.ofNat 64 (2 ^ 2 - 1) := rfl
  have e : (BitVec.ofInt 64 n &&& BitVec.ofInt 64 3).toNat = (BitVec.ofInt 64 n).toNat % 4 := by
    rw [BitVec.toNat_and]
    show (BitVec.ofInt 64 n).toNat &&& (2 ^ 2 - 1) = _
    rw [Nat.and_two_pow_sub_one_eq_mod]
  rw [e, BitVec.toNat_ofInt]
  have hk : ((((n % (2 ^ 64 : Nat)).toNat % 4 : Nat) : Int)) = n % 4 := by
    have h1 : ((n % (2 ^ 64 : Nat)).toNat : Int) = n % (2 ^ 64 : Nat) := Int.toNat_of_nonneg (Int.emod_nonneg _ (by decide))
    omega
  rw [hk]
  have := Int.emod_nonneg n (show (4 : Int) ≠ 0 by decide)
  have := Int.emod_lt_of_pos n (show (4 : Int) > 0 by decide)
  unfold IntKind.wrap
  simp [IntKind.signed, IntKind.bits]
  omega
theorem pow_k {k : Nat} (hk : k < 3) : ((2 : Int) ^ (12 + 9 * k) = 4096 * sizeZ k) := by
  rcases (show k = 0 ∨ k = 1 ∨ k = 2 by omega) with rfl | rfl | rfl <;> decide +kernel
theorem size_k {k : Nat} (hk : k < 3) : sizeZ k = 1 ∨ sizeZ k = 512 ∨ sizeZ k = 262144 := size_is _
theorem pa_lt {x k a : Int} (hx : In64 x) (ha : In64 a) : 0 ≤ paZ x k a ∧ paZ x k a < 72057594037927936 := by
  have hp := page_lt hx
  unfold paZ In64 at *
  rcases size_is k with q | q | q <;> rw [q] <;> omega
theorem pa_in {x k a : Int} (hx : In64 x) (ha : In64 a) : In64 (paZ x k a) := by have := pa_lt (k := k) hx ha; unfold In64; omega
theorem mask_k {y : Int} (hy : In64 y) {k : Nat} (hk : k < 3) : bits .and .u64 y ((2 : Int) ^ (12 + 9 * k) - 1) = y % (4096 * sizeZ k) := by
  rw [bz_mask hy (12 + 9 * k) (by omega) _ rfl, pow_k hk]
theorem pa_low {x a : Int} (hx : In64 x) (ha : In64 a) {k : Nat} (hk : k < 3) : (bits .and .u64 (paZ x k a) ((2 : Int) ^ (12 + 9 * k) - 1) != bits .and .u64 a ((2 : Int) ^ (12 + 9 * k) - 1)) = false := by
  rw [mask_k (pa_in hx ha) hk, mask_k ha hk]
  have hp := page_lt hx
  have : paZ x k a % (4096 * sizeZ k) = a % (4096 * sizeZ k) := by
    unfold paZ
    rcases size_is (k : Int) with q | q | q <;> rw [q] <;> omega
  rw [this]; exact bne_self_eq_false _
theorem judge_2 {x lv : Int} {s : WS} (h : judgeZ x lv s = 2) : okB x = true ∧ leafB x = true ∧ allowB x s = true ∧ pageZ x % sizeZ lv = 0 := by
  unfold judgeZ at h
  cases h1 : okB x <;> simp only [h1, Bool.not_true, Bool.not_false, if_true, if_false, Bool.false_eq_true] at h
  · omega
  cases h2 : leafB x <;> simp only [h2, Bool.not_true, Bool.not_false, if_true, if_false, Bool.false_eq_true] at h
  · split at h <;> omega
  by_cases h3 : pageZ x % sizeZ lv = 0
  · rw [if_neg (by simp [h3])] at h
    cases h4 : allowB x s <;> simp only [h4, Bool.not_true, Bool.not_false, if_true, if_false, Bool.false_eq_true] at h
    · omega
    · exact ⟨rfl, rfl, rfl, h3⟩
  · rw [if_pos (by simpa using h3)] at h; omega
theorem judge_1 {x lv : Int} {s : WS} (h : judgeZ x lv s = 1) : okB x = true ∧ leafB x = false ∧ 0 < lv := by
  unfold judgeZ at h
  cases h1 : okB x <;> simp only [h1, Bool.not_true, Bool.not_false, if_true, if_false, Bool.false_eq_true] at h
  · omega
  cases h2 : leafB x <;> simp only [h2, Bool.not_true, Bool.not_false, if_true, if_false, Bool.false_eq_true] at h
  · by_cases h3 : lv < 1
    · rw [if_pos (decide_eq_true h3)] at h; omega
    · exact ⟨rfl, rfl, by omega⟩
  · split at h
    · omega
    · split at h <;> omega
theorem judge_0 {x : Int} {k : Nat} {s : WS} (h : judgeZ x k s = 0) : okB x = false ∨ (okB x = true ∧ leafB x = false ∧ k = 0) ∨ (okB x = true ∧ leafB x = true ∧ allowB x s = false) ∨ (okB x = true ∧ leafB x = true ∧ allowB x s = true ∧ ¬ pageZ x % sizeZ k = 0) := by
  unfold judgeZ at h
  cases h1 : okB x
  · exact .inl rfl
  · right
    simp only [h1, Bool.not_true, if_false, Bool.false_eq_true] at h
    cases h2 : leafB x
    · left
      simp only [h2, Bool.not_false, if_true] at h
      refine ⟨rfl, rfl, ?_⟩
      by_cases h3 : (k : Int) < 1
      · omega
      · rw [if_neg (by simpa using h3)] at h; omega
    · right
      simp only [h2, Bool.not_true, if_false, Bool.false_eq_true] at h
      cases h4 : allowB x s
      · exact .inl ⟨rfl, rfl, rfl⟩
      · right
        refine ⟨rfl, rfl, rfl, fun h3 => ?_⟩
        rw [if_neg (by simp [h3])] at h
        simp only [h4, Bool.not_true, if_false, Bool.false_eq_true] at h
        omega
theorem found_pa {x a : Int} (hx : In64 x) (ha : In64 a) {k : Nat} (hk : k < 3) (h : pageZ x % sizeZ k = 0) : IntKind.u64.wrap (pageZ x * 4096 + bits .and .u64 a ((2 : Int) ^ (12 + 9 * k) - 1)) = paZ x k a := by
  rw [mask_k ha hk, IntKind.wrap_u64]
  have hp := page_lt hx
  unfold paZ In64 at *
  rcases size_is (k : Int) with q | q | q <;> rw [q] at h ⊢ <;> omega
theorem fault_pa {x : Int} (hx : In64 x) {k : Nat} (hk : k < 3) (h : ¬ pageZ x % sizeZ k = 0) : (bits .and .u64 (pageZ x * 4096) ((2 : Int) ^ (12 + 9 * k) - 1) != 0) = true := by
  have hp := page_lt hx
  rw [mask_k (by unfold In64; omega) hk, bne_iff_ne]
  rcases size_is (k : Int) with q | q | q <;> rw [q] at h ⊢ <;> omega
theorem low_sub {k : Nat} (hk : k < 3) : IntKind.u64.wrap ((2 : Int) ^ (12 + 9 * k) - 1) = (2 : Int) ^ (12 + 9 * k) - 1 := by
  rcases (show k = 0 ∨ k = 1 ∨ k = 2 by omega) with rfl | rfl | rfl <;> decide +kernel
set_option maxHeartbeats 8000000 in
theorem finds_2 (x lv y : Int) (s : WS) (k : Nat) (w : World) (hx : In64 x) (hlv : In63 lv) (ha : In64 y) (sk : WOk s) (hk : k < 3) (hr : bits .and .i64 lv 3 % 3 = (k : Int)) (h0 : 0 ≤ bits .and .i64 lv 3) (hj : judgeZ x k s = 2) (ho : okB x = true) (hl : leafB x = true) (hal : allowB x s = true) (hp : pageZ x % sizeZ k = 0) : Calls Try.prog 8 #[.int .u64 x, .int .i64 lv, .int .u64 y, wantV s] w fun e w' => e = .returned (.bool true) ∧ Below w.heap.size w w' := by
  have HB := Below.refl w.heap.size w
  go_enter Try.func8, Try.ntmps8
  refine begin_fr [(3, wantV s), (2, .int .u64 y), (1, .int .i64 lv), (0, .int .u64 x)] 115 ?_ (fun a hA => ?_)
  · exact FrA.add (FrA.add (FrA.add (FrA.add (FrA.nil (by rfl) (by rfl)) 0 _ (by rfl)) 1 _ (by rfl)) 2 _ (by rfl)) 3 _ (by rfl)
  refine wp_seq ?_
  refine wp_region_list ?_
  refine W_boxT (cs := wantC s) hA rfl 7 rfl (by decide) rfl rfl (fun w1 bB7 a hA hb B7 gB7 => ?_)
  replace gB7 := Nat.le_trans HB.size gB7
  replace HB := HB.trans (hb.mono HB.size)
  clear hb
  refine W_val hA rfl 8 rfl (by decide) _ _ (R_asg hA rfl rfl _) (fun a hA => ?_)
  refine W_nil ?_
  refine then_nrm ?_
  show Code.wp Try.prog _ _ _ _
  refine wp_seq ?_
  refine wp_seq ?_
  refine wp_region_list ?_
  refine W_callA hA (by decide) (fun _ _ => by kernel_rfl) (args0 ) (awake_any _) (fun w2 hw a hA => ?_)
  replace HB := HB.trans (hw.mono HB.size)
  replace B7 := B7.below hw
  clear hw
  refine W_val hA rfl 14 rfl (by decide) _ _ (R_not hA rfl rfl _) (fun a hA => ?_)
  refine W_nil ?_
  refine then_nrm ?_
  show Code.wp Try.prog _ _ _ _
  refine wp_cond_false (hA.ev (x := .tmp 14) rfl) ?_
  refine wp_skip ?_
  refine then_nrm ?_
  show Code.wp Try.prog _ _ _ _
  refine wp_seq ?_
  refine wp_region_list ?_
  refine W_val hA rfl 15 rfl (by decide) _ _ (R_mov hA rfl rfl _) (fun a hA => ?_)
  refine W_val hA rfl 16 rfl (by decide) _ _ (R_andI hA rfl rfl rfl _) (fun a hA => ?_)
  refine W_val hA rfl 17 rfl (by decide) _ _ (R_remIT hA rfl h0 ⟨by decide, by decide⟩ rfl rfl (k : Int) hr _) (fun a hA => ?_)
  refine W_val hA rfl 9 rfl (by decide) _ _ (R_asg hA rfl rfl _) (fun a hA => ?_)
  refine W_nil ?_
  refine then_nrm ?_
  show Code.wp Try.prog _ _ _ _
  refine wp_seq ?_
  refine wp_region_list ?_
  refine W_val hA rfl 18 rfl (by decide) _ _ (R_mov hA rfl rfl _) (fun a hA => ?_)
  refine W_val hA rfl 19 rfl (by decide) _ _ (R_mov hA rfl rfl _) (fun a hA => ?_)
  refine W_val hA rfl 20 rfl (by decide) _ _ (R_row hA rfl rfl B7 Try.underlying25 (by kernel_rfl)) (fun a hA => ?_)
  refine W_callA hA (by decide) (fun _ _ => by kernel_rfl) (args3 hA rfl rfl rfl) (judge_to hx sk hj _) (fun w3 hw a hA => ?_)
  replace HB := HB.trans (hw.mono HB.size)
  replace B7 := B7.below hw
  clear hw
  refine W_val hA rfl 10 rfl (by decide) _ _ (R_asg hA rfl rfl _) (fun a hA => ?_)
  refine W_nil ?_
  refine then_nrm ?_
  show Code.wp Try.prog _ _ _ _
  refine wp_seq ?_
  refine wp_region_list ?_
  refine W_val hA rfl 22 rfl (by decide) _ _ (R_mov hA rfl rfl _) (fun a hA => ?_)
  refine W_val hA rfl 23 rfl (by decide) _ _ (R_mov hA rfl rfl _) (fun a hA => ?_)
  refine W_val hA rfl 24 rfl (by decide) _ _ (R_mov hA rfl rfl _) (fun a hA => ?_)
  refine W_callA hA (by decide) (fun _ _ => by kernel_rfl) (args3 hA rfl rfl rfl) (pa_any x k y hx ha _) (fun w4 hw a hA => ?_)
  replace HB := HB.trans (hw.mono HB.size)
  replace B7 := B7.below hw
  clear hw
  refine W_val hA rfl 11 rfl (by decide) _ _ (R_asg hA rfl rfl _) (fun a hA => ?_)
  refine W_nil ?_
  refine then_nrm ?_
  show Code.wp Try.prog _ _ _ _
  refine wp_seq ?_
  refine wp_region_list ?_
  refine W_val hA rfl 26 rfl (by decide) _ _ (R_mov hA rfl rfl _) (fun a hA => ?_)
  refine W_val hA rfl 27 rfl (by decide) _ _ (R_mulIT hA rfl rfl rfl ((9 * k : Nat) : Int) (by rw [IntWalk.i64_in _ (by omega)]; omega) _) (fun a hA => ?_)
  refine W_val hA rfl 28 rfl (by decide) _ _ (R_addIT hA rfl rfl rfl ((12 + 9 * k : Nat) : Int) (by rw [IntWalk.i64_in _ (by omega)]; omega) _) (fun a hA => ?_)
  refine W_val hA rfl 29 rfl (by decide) _ _ (R_cvIUT hA rfl rfl ((12 + 9 * k : Nat) : Int) (by rw [IntKind.wrap_u64]; omega) _) (fun a hA => ?_)
  refine W_val hA rfl 30 rfl (by decide) _ _ (R_shlI hA rfl (k := 12 + 9 * k) (by omega) rfl rfl _) (fun a hA => ?_)
  refine W_val hA rfl 31 rfl (by decide) _ _ (R_sub hA rfl rfl rfl ((2 : Int) ^ (12 + 9 * k) - 1) (low_sub hk) _) (fun a hA => ?_)
  refine W_val hA rfl 12 rfl (by decide) _ _ (R_asg hA rfl rfl _) (fun a hA => ?_)
  refine W_nil ?_
  refine then_nrm ?_
  show Code.wp Try.prog _ _ _ _
  refine wp_seq ?_
  refine wp_seq ?_
  refine wp_region_list ?_
  refine W_val hA rfl 32 rfl (by decide) _ _ (R_mov hA rfl rfl _) (fun a hA => ?_)
  refine W_val hA rfl 33 rfl (by decide) _ _ (R_mov hA rfl rfl _) (fun a hA => ?_)
  refine W_val hA rfl 34 rfl (by decide) _ _ (R_and hA rfl rfl rfl _) (fun a hA => ?_)
  refine W_val hA rfl 35 rfl (by decide) _ _ (R_mov hA rfl rfl _) (fun a hA => ?_)
  refine W_val hA rfl 36 rfl (by decide) _ _ (R_mov hA rfl rfl _) (fun a hA => ?_)
  refine W_val hA rfl 37 rfl (by decide) _ _ (R_and hA rfl rfl rfl _) (fun a hA => ?_)
  refine W_val hA rfl 38 rfl (by decide) _ _ (R_neqUT hA rfl rfl rfl false (pa_low hx ha hk) _) (fun a hA => ?_)
  refine W_val hA rfl 39 rfl (by decide) _ _ (R_mov hA rfl rfl _) (fun a hA => ?_)
  refine W_gval hA rfl rfl rfl 40 rfl (by decide) _ _ (R_mov hA rfl rfl _) (fun a hA => ?_)
  refine W_gval hA rfl rfl rfl 41 rfl (by decide) _ _ (R_geqUT hA rfl rfl rfl false (by have := pa_lt (k := k) hx ha; simp; omega) _) (fun a hA => ?_)
  refine W_val hA rfl 42 rfl (by decide) _ _ (R_pick hA rfl rfl rfl _) (fun a hA => ?_)
  refine W_nil ?_
  refine then_nrm ?_
  show Code.wp Try.prog _ _ _ _
  refine wp_cond_false (hA.ev (x := .tmp 42) rfl) ?_
  refine wp_skip ?_
  refine then_nrm ?_
  show Code.wp Try.prog _ _ _ _
  refine wp_seq ?_
  refine wp_seq ?_
  refine wp_region_list ?_
  refine W_val hA rfl 43 rfl (by decide) _ _ (R_mov hA rfl rfl _) (fun a hA => ?_)
  refine W_nil ?_
  refine then_nrm ?_
  show Code.wp Try.prog _ _ _ _
  refine wp_block ?_
  refine wp_seq ?_
  refine wp_region_list ?_
  refine W_val hA rfl 45 rfl (by decide) _ _ (R_eqlIT hA rfl rfl rfl true (by decide) _) (fun a hA => ?_)
  refine W_val hA rfl 44 rfl (by decide) _ _ (R_asg hA rfl rfl _) (fun a hA => ?_)
  refine W_nil ?_
  refine then_nrm ?_
  show Code.wp Try.prog _ _ _ _
  refine wp_cond_true (hA.ev (x := .tmp 44) rfl) ?_
  refine wp_seq ?_
  refine wp_region_list ?_
  refine W_val hA rfl 46 rfl (by decide) _ _ (R_mov hA rfl rfl _) (fun a hA => ?_)
  refine W_callA hA (by decide) (fun _ _ => by kernel_rfl) (args1 hA rfl) (ok_to hx ho _) (fun w5 hw a hA => ?_)
  replace HB := HB.trans (hw.mono HB.size)
  replace B7 := B7.below hw
  clear hw
  refine W_val hA rfl 48 rfl (by decide) _ _ (R_mov hA rfl rfl _) (fun a hA => ?_)
  refine W_gval hA rfl rfl rfl 49 rfl (by decide) _ _ (R_mov hA rfl rfl _) (fun a hA => ?_)
  refine W_gcallB hA rfl rfl (by decide) (fun _ _ => by kernel_rfl) (args1 hA rfl) (leaf_to hx hl _) (fun w6 hw a hA => ?_)
  replace HB := HB.trans (hw.mono HB.size)
  replace B7 := B7.below hw
  clear hw
  refine W_val hA rfl 51 rfl (by decide) _ _ (R_pick hA rfl rfl rfl _) (fun a hA => ?_)
  refine W_val hA rfl 52 rfl (by decide) _ _ (R_mov hA rfl rfl _) (fun a hA => ?_)
  refine W_gval hA rfl rfl rfl 53 rfl (by decide) _ _ (R_mov hA rfl rfl _) (fun a hA => ?_)
  refine W_gval hA rfl rfl rfl 54 rfl (by decide) _ _ (R_row hA rfl rfl B7 Try.underlying25 (by kernel_rfl)) (fun a hA => ?_)
  refine W_gcallB hA rfl rfl (by decide) (fun _ _ => by kernel_rfl) (args2 hA rfl rfl) (allow_to hx sk hal _) (fun w7 hw a hA => ?_)
  replace HB := HB.trans (hw.mono HB.size)
  replace B7 := B7.below hw
  clear hw
  refine W_val hA rfl 56 rfl (by decide) _ _ (R_pick hA rfl rfl rfl _) (fun a hA => ?_)
  refine W_val hA rfl 57 rfl (by decide) _ _ (R_mov hA rfl rfl _) (fun a hA => ?_)
  refine W_gval hA rfl rfl rfl 58 rfl (by decide) _ _ (R_mov hA rfl rfl _) (fun a hA => ?_)
  refine W_gval hA rfl rfl rfl 59 rfl (by decide) _ _ (R_mov hA rfl rfl _) (fun a hA => ?_)
  refine W_gcallB hA rfl rfl (by decide) (fun _ _ => by kernel_rfl) (args1 hA rfl) (page_any x hx _) (fun w8 hw a hA => ?_)
  replace HB := HB.trans (hw.mono HB.size)
  replace B7 := B7.below hw
  clear hw
  refine W_gval hA rfl rfl rfl 61 rfl (by decide) _ _ (R_mulT hA rfl rfl rfl (pageZ x * 4096) (by have := page_lt hx; rw [IntKind.wrap_u64]; omega) _) (fun a hA => ?_)
  refine W_gval hA rfl rfl rfl 62 rfl (by decide) _ _ (R_mov hA rfl rfl _) (fun a hA => ?_)
  refine W_gval hA rfl rfl rfl 63 rfl (by decide) _ _ (R_mov hA rfl rfl _) (fun a hA => ?_)
  refine W_gval hA rfl rfl rfl 64 rfl (by decide) _ _ (R_and hA rfl rfl rfl _) (fun a hA => ?_)
  refine W_gval hA rfl rfl rfl 65 rfl (by decide) _ _ (R_addT hA rfl rfl rfl (paZ x k y) (found_pa hx ha hk hp) _) (fun a hA => ?_)
  refine W_gval hA rfl rfl rfl 66 rfl (by decide) _ _ (R_eqlUT hA rfl rfl rfl true (by simp) _) (fun a hA => ?_)
  refine W_val hA rfl 67 rfl (by decide) _ _ (R_pick hA rfl rfl rfl _) (fun a hA => ?_)
  refine W_val hA rfl 8 rfl (by decide) _ _ (R_asg hA rfl rfl _) (fun a hA => ?_)
  refine W_nil ?_
  refine then_nrm ?_
  show Code.wp Try.prog _ _ _ _
  refine wp_ret ?_
  refine blk_ret ?_
  refine then_ret ?_
  exact ret_tmp (j := 8) (by kernel_rfl) hA (by decide) rfl ⟨rfl, HB⟩
set_option maxHeartbeats 8000000 in
theorem finds_1 (x lv y : Int) (s : WS) (k : Nat) (w : World) (hx : In64 x) (hlv : In63 lv) (ha : In64 y) (sk : WOk s) (hk : k < 3) (hr : bits .and .i64 lv 3 % 3 = (k : Int)) (h0 : 0 ≤ bits .and .i64 lv 3) (hj : judgeZ x k s = 1) (ho : okB x = true) (hl : leafB x = false) (hk0 : 0 < k) : Calls Try.prog 8 #[.int .u64 x, .int .i64 lv, .int .u64 y, wantV s] w fun e w' => e = .returned (.bool true) ∧ Below w.heap.size w w' := by
  have HB := Below.refl w.heap.size w
  go_enter Try.func8, Try.ntmps8
  refine begin_fr [(3, wantV s), (2, .int .u64 y), (1, .int .i64 lv), (0, .int .u64 x)] 115 ?_ (fun a hA => ?_)
  · exact FrA.add (FrA.add (FrA.add (FrA.add (FrA.nil (by rfl) (by rfl)) 0 _ (by rfl)) 1 _ (by rfl)) 2 _ (by rfl)) 3 _ (by rfl)
  refine wp_seq ?_
  refine wp_region_list ?_
  refine W_boxT (cs := wantC s) hA rfl 7 rfl (by decide) rfl rfl (fun w1 bB7 a hA hb B7 gB7 => ?_)
  replace gB7 := Nat.le_trans HB.size gB7
  replace HB := HB.trans (hb.mono HB.size)
  clear hb
  refine W_val hA rfl 8 rfl (by decide) _ _ (R_asg hA rfl rfl _) (fun a hA => ?_)
  refine W_nil ?_
  refine then_nrm ?_
  show Code.wp Try.prog _ _ _ _
  refine wp_seq ?_
  refine wp_seq ?_
  refine wp_region_list ?_
  refine W_callA hA (by decide) (fun _ _ => by kernel_rfl) (args0 ) (awake_any _) (fun w2 hw a hA => ?_)
  replace HB := HB.trans (hw.mono HB.size)
  replace B7 := B7.below hw
  clear hw
  refine W_val hA rfl 14 rfl (by decide) _ _ (R_not hA rfl rfl _) (fun a hA => ?_)
  refine W_nil ?_
  refine then_nrm ?_
  show Code.wp Try.prog _ _ _ _
  refine wp_cond_false (hA.ev (x := .tmp 14) rfl) ?_
  refine wp_skip ?_
  refine then_nrm ?_
  show Code.wp Try.prog _ _ _ _
  refine wp_seq ?_
  refine wp_region_list ?_
  refine W_val hA rfl 15 rfl (by decide) _ _ (R_mov hA rfl rfl _) (fun a hA => ?_)
  refine W_val hA rfl 16 rfl (by decide) _ _ (R_andI hA rfl rfl rfl _) (fun a hA => ?_)
  refine W_val hA rfl 17 rfl (by decide) _ _ (R_remIT hA rfl h0 ⟨by decide, by decide⟩ rfl rfl (k : Int) hr _) (fun a hA => ?_)
  refine W_val hA rfl 9 rfl (by decide) _ _ (R_asg hA rfl rfl _) (fun a hA => ?_)
  refine W_nil ?_
  refine then_nrm ?_
  show Code.wp Try.prog _ _ _ _
  refine wp_seq ?_
  refine wp_region_list ?_
  refine W_val hA rfl 18 rfl (by decide) _ _ (R_mov hA rfl rfl _) (fun a hA => ?_)
  refine W_val hA rfl 19 rfl (by decide) _ _ (R_mov hA rfl rfl _) (fun a hA => ?_)
  refine W_val hA rfl 20 rfl (by decide) _ _ (R_row hA rfl rfl B7 Try.underlying25 (by kernel_rfl)) (fun a hA => ?_)
  refine W_callA hA (by decide) (fun _ _ => by kernel_rfl) (args3 hA rfl rfl rfl) (judge_to hx sk hj _) (fun w3 hw a hA => ?_)
  replace HB := HB.trans (hw.mono HB.size)
  replace B7 := B7.below hw
  clear hw
  refine W_val hA rfl 10 rfl (by decide) _ _ (R_asg hA rfl rfl _) (fun a hA => ?_)
  refine W_nil ?_
  refine then_nrm ?_
  show Code.wp Try.prog _ _ _ _
  refine wp_seq ?_
  refine wp_region_list ?_
  refine W_val hA rfl 22 rfl (by decide) _ _ (R_mov hA rfl rfl _) (fun a hA => ?_)
  refine W_val hA rfl 23 rfl (by decide) _ _ (R_mov hA rfl rfl _) (fun a hA => ?_)
  refine W_val hA rfl 24 rfl (by decide) _ _ (R_mov hA rfl rfl _) (fun a hA => ?_)
  refine W_callA hA (by decide) (fun _ _ => by kernel_rfl) (args3 hA rfl rfl rfl) (pa_any x k y hx ha _) (fun w4 hw a hA => ?_)
  replace HB := HB.trans (hw.mono HB.size)
  replace B7 := B7.below hw
  clear hw
  refine W_val hA rfl 11 rfl (by decide) _ _ (R_asg hA rfl rfl _) (fun a hA => ?_)
  refine W_nil ?_
  refine then_nrm ?_
  show Code.wp Try.prog _ _ _ _
  refine wp_seq ?_
  refine wp_region_list ?_
  refine W_val hA rfl 26 rfl (by decide) _ _ (R_mov hA rfl rfl _) (fun a hA => ?_)
  refine W_val hA rfl 27 rfl (by decide) _ _ (R_mulIT hA rfl rfl rfl ((9 * k : Nat) : Int) (by rw [IntWalk.i64_in _ (by omega)]; omega) _) (fun a hA => ?_)
  refine W_val hA rfl 28 rfl (by decide) _ _ (R_addIT hA rfl rfl rfl ((12 + 9 * k : Nat) : Int) (by rw [IntWalk.i64_in _ (by omega)]; omega) _) (fun a hA => ?_)
  refine W_val hA rfl 29 rfl (by decide) _ _ (R_cvIUT hA rfl rfl ((12 + 9 * k : Nat) : Int) (by rw [IntKind.wrap_u64]; omega) _) (fun a hA => ?_)
  refine W_val hA rfl 30 rfl (by decide) _ _ (R_shlI hA rfl (k := 12 + 9 * k) (by omega) rfl rfl _) (fun a hA => ?_)
  refine W_val hA rfl 31 rfl (by decide) _ _ (R_sub hA rfl rfl rfl ((2 : Int) ^ (12 + 9 * k) - 1) (low_sub hk) _) (fun a hA => ?_)
  refine W_val hA rfl 12 rfl (by decide) _ _ (R_asg hA rfl rfl _) (fun a hA => ?_)
  refine W_nil ?_
  refine then_nrm ?_
  show Code.wp Try.prog _ _ _ _
  refine wp_seq ?_
  refine wp_seq ?_
  refine wp_region_list ?_
  refine W_val hA rfl 32 rfl (by decide) _ _ (R_mov hA rfl rfl _) (fun a hA => ?_)
  refine W_val hA rfl 33 rfl (by decide) _ _ (R_mov hA rfl rfl _) (fun a hA => ?_)
  refine W_val hA rfl 34 rfl (by decide) _ _ (R_and hA rfl rfl rfl _) (fun a hA => ?_)
  refine W_val hA rfl 35 rfl (by decide) _ _ (R_mov hA rfl rfl _) (fun a hA => ?_)
  refine W_val hA rfl 36 rfl (by decide) _ _ (R_mov hA rfl rfl _) (fun a hA => ?_)
  refine W_val hA rfl 37 rfl (by decide) _ _ (R_and hA rfl rfl rfl _) (fun a hA => ?_)
  refine W_val hA rfl 38 rfl (by decide) _ _ (R_neqUT hA rfl rfl rfl false (pa_low hx ha hk) _) (fun a hA => ?_)
  refine W_val hA rfl 39 rfl (by decide) _ _ (R_mov hA rfl rfl _) (fun a hA => ?_)
  refine W_gval hA rfl rfl rfl 40 rfl (by decide) _ _ (R_mov hA rfl rfl _) (fun a hA => ?_)
  refine W_gval hA rfl rfl rfl 41 rfl (by decide) _ _ (R_geqUT hA rfl rfl rfl false (by have := pa_lt (k := k) hx ha; simp; omega) _) (fun a hA => ?_)
  refine W_val hA rfl 42 rfl (by decide) _ _ (R_pick hA rfl rfl rfl _) (fun a hA => ?_)
  refine W_nil ?_
  refine then_nrm ?_
  show Code.wp Try.prog _ _ _ _
  refine wp_cond_false (hA.ev (x := .tmp 42) rfl) ?_
  refine wp_skip ?_
  refine then_nrm ?_
  show Code.wp Try.prog _ _ _ _
  refine wp_seq ?_
  refine wp_seq ?_
  refine wp_region_list ?_
  refine W_val hA rfl 43 rfl (by decide) _ _ (R_mov hA rfl rfl _) (fun a hA => ?_)
  refine W_nil ?_
  refine then_nrm ?_
  show Code.wp Try.prog _ _ _ _
  refine wp_block ?_
  refine wp_seq ?_
  refine wp_region_list ?_
  refine W_val hA rfl 45 rfl (by decide) _ _ (R_eqlIT hA rfl rfl rfl false (by decide) _) (fun a hA => ?_)
  refine W_val hA rfl 44 rfl (by decide) _ _ (R_asg hA rfl rfl _) (fun a hA => ?_)
  refine W_nil ?_
  refine then_nrm ?_
  show Code.wp Try.prog _ _ _ _
  refine wp_cond_false (hA.ev (x := .tmp 44) rfl) ?_
  refine wp_seq ?_
  refine wp_region_list ?_
  refine W_val hA rfl 69 rfl (by decide) _ _ (R_eqlIT hA rfl rfl rfl true (by decide) _) (fun a hA => ?_)
  refine W_val hA rfl 68 rfl (by decide) _ _ (R_asg hA rfl rfl _) (fun a hA => ?_)
  refine W_nil ?_
  refine then_nrm ?_
  show Code.wp Try.prog _ _ _ _
  refine wp_cond_true (hA.ev (x := .tmp 68) rfl) ?_
  refine wp_seq ?_
  refine wp_region_list ?_
  refine W_val hA rfl 70 rfl (by decide) _ _ (R_mov hA rfl rfl _) (fun a hA => ?_)
  refine W_callA hA (by decide) (fun _ _ => by kernel_rfl) (args1 hA rfl) (ok_to hx ho _) (fun w5 hw a hA => ?_)
  replace HB := HB.trans (hw.mono HB.size)
  replace B7 := B7.below hw
  clear hw
  refine W_val hA rfl 72 rfl (by decide) _ _ (R_mov hA rfl rfl _) (fun a hA => ?_)
  refine W_gval hA rfl rfl rfl 73 rfl (by decide) _ _ (R_mov hA rfl rfl _) (fun a hA => ?_)
  refine W_gcallB hA rfl rfl (by decide) (fun _ _ => by kernel_rfl) (args1 hA rfl) (leaf_to hx hl _) (fun w6 hw a hA => ?_)
  replace HB := HB.trans (hw.mono HB.size)
  replace B7 := B7.below hw
  clear hw
  refine W_gval hA rfl rfl rfl 75 rfl (by decide) _ _ (R_not hA rfl rfl _) (fun a hA => ?_)
  refine W_val hA rfl 76 rfl (by decide) _ _ (R_pick hA rfl rfl rfl _) (fun a hA => ?_)
  refine W_val hA rfl 77 rfl (by decide) _ _ (R_mov hA rfl rfl _) (fun a hA => ?_)
  refine W_gval hA rfl rfl rfl 78 rfl (by decide) _ _ (R_mov hA rfl rfl _) (fun a hA => ?_)
  refine W_gval hA rfl rfl rfl 79 rfl (by decide) _ _ (R_gtrIT hA rfl rfl rfl true (by simp; omega) _) (fun a hA => ?_)
  refine W_val hA rfl 80 rfl (by decide) _ _ (R_pick hA rfl rfl rfl _) (fun a hA => ?_)
  refine W_val hA rfl 8 rfl (by decide) _ _ (R_asg hA rfl rfl _) (fun a hA => ?_)
  refine W_nil ?_
  refine then_nrm ?_
  show Code.wp Try.prog _ _ _ _
  refine wp_ret ?_
  refine blk_ret ?_
  refine then_ret ?_
  exact ret_tmp (j := 8) (by kernel_rfl) hA (by decide) rfl ⟨rfl, HB⟩
set_option maxHeartbeats 8000000 in
theorem finds_0a (x lv y : Int) (s : WS) (k : Nat) (w : World) (hx : In64 x) (hlv : In63 lv) (ha : In64 y) (sk : WOk s) (hk : k < 3) (hr : bits .and .i64 lv 3 % 3 = (k : Int)) (h0 : 0 ≤ bits .and .i64 lv 3) (hj : judgeZ x k s = 0) (ho : okB x = false)  : Calls Try.prog 8 #[.int .u64 x, .int .i64 lv, .int .u64 y, wantV s] w fun e w' => e = .returned (.bool true) ∧ Below w.heap.size w w' := by
  have HB := Below.refl w.heap.size w
  go_enter Try.func8, Try.ntmps8
  refine begin_fr [(3, wantV s), (2, .int .u64 y), (1, .int .i64 lv), (0, .int .u64 x)] 115 ?_ (fun a hA => ?_)
  · exact FrA.add (FrA.add (FrA.add (FrA.add (FrA.nil (by rfl) (by rfl)) 0 _ (by rfl)) 1 _ (by rfl)) 2 _ (by rfl)) 3 _ (by rfl)
  refine wp_seq ?_
  refine wp_region_list ?_
  refine W_boxT (cs := wantC s) hA rfl 7 rfl (by decide) rfl rfl (fun w1 bB7 a hA hb B7 gB7 => ?_)
  replace gB7 := Nat.le_trans HB.size gB7
  replace HB := HB.trans (hb.mono HB.size)
  clear hb
  refine W_val hA rfl 8 rfl (by decide) _ _ (R_asg hA rfl rfl _) (fun a hA => ?_)
  refine W_nil ?_
  refine then_nrm ?_
  show Code.wp Try.prog _ _ _ _
  refine wp_seq ?_
  refine wp_seq ?_
  refine wp_region_list ?_
  refine W_callA hA (by decide) (fun _ _ => by kernel_rfl) (args0 ) (awake_any _) (fun w2 hw a hA => ?_)
  replace HB := HB.trans (hw.mono HB.size)
  replace B7 := B7.below hw
  clear hw
  refine W_val hA rfl 14 rfl (by decide) _ _ (R_not hA rfl rfl _) (fun a hA => ?_)
  refine W_nil ?_
  refine then_nrm ?_
  show Code.wp Try.prog _ _ _ _
  refine wp_cond_false (hA.ev (x := .tmp 14) rfl) ?_
  refine wp_skip ?_
  refine then_nrm ?_
  show Code.wp Try.prog _ _ _ _
  refine wp_seq ?_
  refine wp_region_list ?_
  refine W_val hA rfl 15 rfl (by decide) _ _ (R_mov hA rfl rfl _) (fun a hA => ?_)
  refine W_val hA rfl 16 rfl (by decide) _ _ (R_andI hA rfl rfl rfl _) (fun a hA => ?_)
  refine W_val hA rfl 17 rfl (by decide) _ _ (R_remIT hA rfl h0 ⟨by decide, by decide⟩ rfl rfl (k : Int) hr _) (fun a hA => ?_)
  refine W_val hA rfl 9 rfl (by decide) _ _ (R_asg hA rfl rfl _) (fun a hA => ?_)
  refine W_nil ?_
  refine then_nrm ?_
  show Code.wp Try.prog _ _ _ _
  refine wp_seq ?_
  refine wp_region_list ?_
  refine W_val hA rfl 18 rfl (by decide) _ _ (R_mov hA rfl rfl _) (fun a hA => ?_)
  refine W_val hA rfl 19 rfl (by decide) _ _ (R_mov hA rfl rfl _) (fun a hA => ?_)
  refine W_val hA rfl 20 rfl (by decide) _ _ (R_row hA rfl rfl B7 Try.underlying25 (by kernel_rfl)) (fun a hA => ?_)
  refine W_callA hA (by decide) (fun _ _ => by kernel_rfl) (args3 hA rfl rfl rfl) (judge_to hx sk hj _) (fun w3 hw a hA => ?_)
  replace HB := HB.trans (hw.mono HB.size)
  replace B7 := B7.below hw
  clear hw
  refine W_val hA rfl 10 rfl (by decide) _ _ (R_asg hA rfl rfl _) (fun a hA => ?_)
  refine W_nil ?_
  refine then_nrm ?_
  show Code.wp Try.prog _ _ _ _
  refine wp_seq ?_
  refine wp_region_list ?_
  refine W_val hA rfl 22 rfl (by decide) _ _ (R_mov hA rfl rfl _) (fun a hA => ?_)
  refine W_val hA rfl 23 rfl (by decide) _ _ (R_mov hA rfl rfl _) (fun a hA => ?_)
  refine W_val hA rfl 24 rfl (by decide) _ _ (R_mov hA rfl rfl _) (fun a hA => ?_)
  refine W_callA hA (by decide) (fun _ _ => by kernel_rfl) (args3 hA rfl rfl rfl) (pa_any x k y hx ha _) (fun w4 hw a hA => ?_)
  replace HB := HB.trans (hw.mono HB.size)
  replace B7 := B7.below hw
  clear hw
  refine W_val hA rfl 11 rfl (by decide) _ _ (R_asg hA rfl rfl _) (fun a hA => ?_)
  refine W_nil ?_
  refine then_nrm ?_
  show Code.wp Try.prog _ _ _ _
  refine wp_seq ?_
  refine wp_region_list ?_
  refine W_val hA rfl 26 rfl (by decide) _ _ (R_mov hA rfl rfl _) (fun a hA => ?_)
  refine W_val hA rfl 27 rfl (by decide) _ _ (R_mulIT hA rfl rfl rfl ((9 * k : Nat) : Int) (by rw [IntWalk.i64_in _ (by omega)]; omega) _) (fun a hA => ?_)
  refine W_val hA rfl 28 rfl (by decide) _ _ (R_addIT hA rfl rfl rfl ((12 + 9 * k : Nat) : Int) (by rw [IntWalk.i64_in _ (by omega)]; omega) _) (fun a hA => ?_)
  refine W_val hA rfl 29 rfl (by decide) _ _ (R_cvIUT hA rfl rfl ((12 + 9 * k : Nat) : Int) (by rw [IntKind.wrap_u64]; omega) _) (fun a hA => ?_)
  refine W_val hA rfl 30 rfl (by decide) _ _ (R_shlI hA rfl (k := 12 + 9 * k) (by omega) rfl rfl _) (fun a hA => ?_)
  refine W_val hA rfl 31 rfl (by decide) _ _ (R_sub hA rfl rfl rfl ((2 : Int) ^ (12 + 9 * k) - 1) (low_sub hk) _) (fun a hA => ?_)
  refine W_val hA rfl 12 rfl (by decide) _ _ (R_asg hA rfl rfl _) (fun a hA => ?_)
  refine W_nil ?_
  refine then_nrm ?_
  show Code.wp Try.prog _ _ _ _
  refine wp_seq ?_
  refine wp_seq ?_
  refine wp_region_list ?_
  refine W_val hA rfl 32 rfl (by decide) _ _ (R_mov hA rfl rfl _) (fun a hA => ?_)
  refine W_val hA rfl 33 rfl (by decide) _ _ (R_mov hA rfl rfl _) (fun a hA => ?_)
  refine W_val hA rfl 34 rfl (by decide) _ _ (R_and hA rfl rfl rfl _) (fun a hA => ?_)
  refine W_val hA rfl 35 rfl (by decide) _ _ (R_mov hA rfl rfl _) (fun a hA => ?_)
  refine W_val hA rfl 36 rfl (by decide) _ _ (R_mov hA rfl rfl _) (fun a hA => ?_)
  refine W_val hA rfl 37 rfl (by decide) _ _ (R_and hA rfl rfl rfl _) (fun a hA => ?_)
  refine W_val hA rfl 38 rfl (by decide) _ _ (R_neqUT hA rfl rfl rfl false (pa_low hx ha hk) _) (fun a hA => ?_)
  refine W_val hA rfl 39 rfl (by decide) _ _ (R_mov hA rfl rfl _) (fun a hA => ?_)
  refine W_gval hA rfl rfl rfl 40 rfl (by decide) _ _ (R_mov hA rfl rfl _) (fun a hA => ?_)
  refine W_gval hA rfl rfl rfl 41 rfl (by decide) _ _ (R_geqUT hA rfl rfl rfl false (by have := pa_lt (k := k) hx ha; simp; omega) _) (fun a hA => ?_)
  refine W_val hA rfl 42 rfl (by decide) _ _ (R_pick hA rfl rfl rfl _) (fun a hA => ?_)
  refine W_nil ?_
  refine then_nrm ?_
  show Code.wp Try.prog _ _ _ _
  refine wp_cond_false (hA.ev (x := .tmp 42) rfl) ?_
  refine wp_skip ?_
  refine then_nrm ?_
  show Code.wp Try.prog _ _ _ _
  refine wp_seq ?_
  refine wp_seq ?_
  refine wp_region_list ?_
  refine W_val hA rfl 43 rfl (by decide) _ _ (R_mov hA rfl rfl _) (fun a hA => ?_)
  refine W_nil ?_
  refine then_nrm ?_
  show Code.wp Try.prog _ _ _ _
  refine wp_block ?_
  refine wp_seq ?_
  refine wp_region_list ?_
  refine W_val hA rfl 45 rfl (by decide) _ _ (R_eqlIT hA rfl rfl rfl false (by decide) _) (fun a hA => ?_)
  refine W_val hA rfl 44 rfl (by decide) _ _ (R_asg hA rfl rfl _) (fun a hA => ?_)
  refine W_nil ?_
  refine then_nrm ?_
  show Code.wp Try.prog _ _ _ _
  refine wp_cond_false (hA.ev (x := .tmp 44) rfl) ?_
  refine wp_seq ?_
  refine wp_region_list ?_
  refine W_val hA rfl 69 rfl (by decide) _ _ (R_eqlIT hA rfl rfl rfl false (by decide) _) (fun a hA => ?_)
  refine W_val hA rfl 68 rfl (by decide) _ _ (R_asg hA rfl rfl _) (fun a hA => ?_)
  refine W_nil ?_
  refine then_nrm ?_
  show Code.wp Try.prog _ _ _ _
  refine wp_cond_false (hA.ev (x := .tmp 68) rfl) ?_
  refine wp_skip ?_
  refine blk_nrm ?_
  refine then_nrm ?_
  show Code.wp Try.prog _ _ _ _
  refine wp_seq ?_
  refine wp_region_list ?_
  refine W_val hA rfl 81 rfl (by decide) _ _ (R_mov hA rfl rfl _) (fun a hA => ?_)
  refine W_val hA rfl 82 rfl (by decide) _ _ (R_eqlIT hA rfl rfl rfl true (by decide) _) (fun a hA => ?_)
  refine W_val hA rfl 83 rfl (by decide) _ _ (R_mov hA rfl rfl _) (fun a hA => ?_)
  refine W_gval hA rfl rfl rfl 84 rfl (by decide) _ _ (R_mov hA rfl rfl _) (fun a hA => ?_)
  refine W_gcallB hA rfl rfl (by decide) (fun _ _ => by kernel_rfl) (args1 hA rfl) (ok_to hx ho _) (fun w5 hw a hA => ?_)
  replace HB := HB.trans (hw.mono HB.size)
  replace B7 := B7.below hw
  clear hw
  refine W_gval hA rfl rfl rfl 86 rfl (by decide) _ _ (R_not hA rfl rfl _) (fun a hA => ?_)
  refine W_gval hA rfl rfl rfl 87 rfl (by decide) _ _ (R_mov hA rfl rfl _) (fun a hA => ?_)
  refine W_gskip hA rfl rfl rfl 88 rfl (by decide) (fun a hA => ?_)
  refine W_gskip hA rfl rfl rfl 89 rfl (by decide) (fun a hA => ?_)
  refine W_gskip hA rfl rfl rfl 90 rfl (by decide) (fun a hA => ?_)
  refine W_gskip hA rfl rfl rfl 91 rfl (by decide) (fun a hA => ?_)
  refine W_gskipU hA rfl rfl rfl 92 rfl (by decide) (fun a hA => ?_)
  refine W_gskipU hA rfl rfl rfl 93 rfl (by decide) (fun a hA => ?_)
  refine W_gskip hA rfl rfl rfl 94 rfl (by decide) (fun a hA => ?_)
  refine W_gval hA rfl rfl rfl 95 rfl (by decide) _ _ (R_pick hA rfl rfl rfl _) (fun a hA => ?_)
  refine W_gval hA rfl rfl rfl 96 rfl (by decide) _ _ (R_mov hA rfl rfl _) (fun a hA => ?_)
  refine W_gskip hA rfl rfl rfl 97 rfl (by decide) (fun a hA => ?_)
  refine W_gskip hA rfl rfl rfl 98 rfl (by decide) (fun a hA => ?_)
  refine W_gskip hA rfl rfl rfl 99 rfl (by decide) (fun a hA => ?_)
  refine W_gskipU hA rfl rfl rfl 100 rfl (by decide) (fun a hA => ?_)
  refine W_gskipU hA rfl rfl rfl 101 rfl (by decide) (fun a hA => ?_)
  refine W_gskipU hA rfl rfl rfl 102 rfl (by decide) (fun a hA => ?_)
  refine W_gskipU hA rfl rfl rfl 103 rfl (by decide) (fun a hA => ?_)
  refine W_gskipU hA rfl rfl rfl 104 rfl (by decide) (fun a hA => ?_)
  refine W_gskipU hA rfl rfl rfl 105 rfl (by decide) (fun a hA => ?_)
  refine W_gskipU hA rfl rfl rfl 106 rfl (by decide) (fun a hA => ?_)
  refine W_gskipU hA rfl rfl rfl 107 rfl (by decide) (fun a hA => ?_)
  refine W_gskipU hA rfl rfl rfl 108 rfl (by decide) (fun a hA => ?_)
  refine W_gskipU hA rfl rfl rfl 109 rfl (by decide) (fun a hA => ?_)
  refine W_gskipU hA rfl rfl rfl 110 rfl (by decide) (fun a hA => ?_)
  refine W_gskipU hA rfl rfl rfl 111 rfl (by decide) (fun a hA => ?_)
  refine W_gskip hA rfl rfl rfl 112 rfl (by decide) (fun a hA => ?_)
  refine W_gval hA rfl rfl rfl 113 rfl (by decide) _ _ (R_pick hA rfl rfl rfl _) (fun a hA => ?_)
  refine W_val hA rfl 114 rfl (by decide) _ _ (R_pick hA rfl rfl rfl _) (fun a hA => ?_)
  refine W_val hA rfl 8 rfl (by decide) _ _ (R_asg hA rfl rfl _) (fun a hA => ?_)
  refine W_nil ?_
  refine then_nrm ?_
  show Code.wp Try.prog _ _ _ _
  refine wp_ret ?_
  exact ret_tmp (j := 8) (by kernel_rfl) hA (by decide) rfl ⟨rfl, HB⟩
set_option maxHeartbeats 8000000 in
theorem finds_0b (x lv y : Int) (s : WS) (k : Nat) (w : World) (hx : In64 x) (hlv : In63 lv) (ha : In64 y) (sk : WOk s) (hk : k < 3) (hr : bits .and .i64 lv 3 % 3 = (k : Int)) (h0 : 0 ≤ bits .and .i64 lv 3) (hj : judgeZ x k s = 0) (ho : okB x = true) (hl : leafB x = false) (hk0 : k = 0) : Calls Try.prog 8 #[.int .u64 x, .int .i64 lv, .int .u64 y, wantV s] w fun e w' => e = .returned (.bool true) ∧ Below w.heap.size w w' := by
  have HB := Below.refl w.heap.size w
  go_enter Try.func8, Try.ntmps8
  refine begin_fr [(3, wantV s), (2, .int .u64 y), (1, .int .i64 lv), (0, .int .u64 x)] 115 ?_ (fun a hA => ?_)
  · exact FrA.add (FrA.add (FrA.add (FrA.add (FrA.nil (by rfl) (by rfl)) 0 _ (by rfl)) 1 _ (by rfl)) 2 _ (by rfl)) 3 _ (by rfl)
  refine wp_seq ?_
  refine wp_region_list ?_
  refine W_boxT (cs := wantC s) hA rfl 7 rfl (by decide) rfl rfl (fun w1 bB7 a hA hb B7 gB7 => ?_)
  replace gB7 := Nat.le_trans HB.size gB7
  replace HB := HB.trans (hb.mono HB.size)
  clear hb
  refine W_val hA rfl 8 rfl (by decide) _ _ (R_asg hA rfl rfl _) (fun a hA => ?_)
  refine W_nil ?_
  refine then_nrm ?_
  show Code.wp Try.prog _ _ _ _
  refine wp_seq ?_
  refine wp_seq ?_
  refine wp_region_list ?_
  refine W_callA hA (by decide) (fun _ _ => by kernel_rfl) (args0 ) (awake_any _) (fun w2 hw a hA => ?_)
  replace HB := HB.trans (hw.mono HB.size)
  replace B7 := B7.below hw
  clear hw
  refine W_val hA rfl 14 rfl (by decide) _ _ (R_not hA rfl rfl _) (fun a hA => ?_)
  refine W_nil ?_
  refine then_nrm ?_
  show Code.wp Try.prog _ _ _ _
  refine wp_cond_false (hA.ev (x := .tmp 14) rfl) ?_
  refine wp_skip ?_
  refine then_nrm ?_
  show Code.wp Try.prog _ _ _ _
  refine wp_seq ?_
  refine wp_region_list ?_
  refine W_val hA rfl 15 rfl (by decide) _ _ (R_mov hA rfl rfl _) (fun a hA => ?_)
  refine W_val hA rfl 16 rfl (by decide) _ _ (R_andI hA rfl rfl rfl _) (fun a hA => ?_)
  refine W_val hA rfl 17 rfl (by decide) _ _ (R_remIT hA rfl h0 ⟨by decide, by decide⟩ rfl rfl (k : Int) hr _) (fun a hA => ?_)
  refine W_val hA rfl 9 rfl (by decide) _ _ (R_asg hA rfl rfl _) (fun a hA => ?_)
  refine W_nil ?_
  refine then_nrm ?_
  show Code.wp Try.prog _ _ _ _
  refine wp_seq ?_
  refine wp_region_list ?_
  refine W_val hA rfl 18 rfl (by decide) _ _ (R_mov hA rfl rfl _) (fun a hA => ?_)
  refine W_val hA rfl 19 rfl (by decide) _ _ (R_mov hA rfl rfl _) (fun a hA => ?_)
  refine W_val hA rfl 20 rfl (by decide) _ _ (R_row hA rfl rfl B7 Try.underlying25 (by kernel_rfl)) (fun a hA => ?_)
  refine W_callA hA (by decide) (fun _ _ => by kernel_rfl) (args3 hA rfl rfl rfl) (judge_to hx sk hj _) (fun w3 hw a hA => ?_)
  replace HB := HB.trans (hw.mono HB.size)
  replace B7 := B7.below hw
  clear hw
  refine W_val hA rfl 10 rfl (by decide) _ _ (R_asg hA rfl rfl _) (fun a hA => ?_)
  refine W_nil ?_
  refine then_nrm ?_
  show Code.wp Try.prog _ _ _ _
  refine wp_seq ?_
  refine wp_region_list ?_
  refine W_val hA rfl 22 rfl (by decide) _ _ (R_mov hA rfl rfl _) (fun a hA => ?_)
  refine W_val hA rfl 23 rfl (by decide) _ _ (R_mov hA rfl rfl _) (fun a hA => ?_)
  refine W_val hA rfl 24 rfl (by decide) _ _ (R_mov hA rfl rfl _) (fun a hA => ?_)
  refine W_callA hA (by decide) (fun _ _ => by kernel_rfl) (args3 hA rfl rfl rfl) (pa_any x k y hx ha _) (fun w4 hw a hA => ?_)
  replace HB := HB.trans (hw.mono HB.size)
  replace B7 := B7.below hw
  clear hw
  refine W_val hA rfl 11 rfl (by decide) _ _ (R_asg hA rfl rfl _) (fun a hA => ?_)
  refine W_nil ?_
  refine then_nrm ?_
  show Code.wp Try.prog _ _ _ _
  refine wp_seq ?_
  refine wp_region_list ?_
  refine W_val hA rfl 26 rfl (by decide) _ _ (R_mov hA rfl rfl _) (fun a hA => ?_)
  refine W_val hA rfl 27 rfl (by decide) _ _ (R_mulIT hA rfl rfl rfl ((9 * k : Nat) : Int) (by rw [IntWalk.i64_in _ (by omega)]; omega) _) (fun a hA => ?_)
  refine W_val hA rfl 28 rfl (by decide) _ _ (R_addIT hA rfl rfl rfl ((12 + 9 * k : Nat) : Int) (by rw [IntWalk.i64_in _ (by omega)]; omega) _) (fun a hA => ?_)
  refine W_val hA rfl 29 rfl (by decide) _ _ (R_cvIUT hA rfl rfl ((12 + 9 * k : Nat) : Int) (by rw [IntKind.wrap_u64]; omega) _) (fun a hA => ?_)
  refine W_val hA rfl 30 rfl (by decide) _ _ (R_shlI hA rfl (k := 12 + 9 * k) (by omega) rfl rfl _) (fun a hA => ?_)
  refine W_val hA rfl 31 rfl (by decide) _ _ (R_sub hA rfl rfl rfl ((2 : Int) ^ (12 + 9 * k) - 1) (low_sub hk) _) (fun a hA => ?_)
  refine W_val hA rfl 12 rfl (by decide) _ _ (R_asg hA rfl rfl _) (fun a hA => ?_)
  refine W_nil ?_
  refine then_nrm ?_
  show Code.wp Try.prog _ _ _ _
  refine wp_seq ?_
  refine wp_seq ?_
  refine wp_region_list ?_
  refine W_val hA rfl 32 rfl (by decide) _ _ (R_mov hA rfl rfl _) (fun a hA => ?_)
  refine W_val hA rfl 33 rfl (by decide) _ _ (R_mov hA rfl rfl _) (fun a hA => ?_)
  refine W_val hA rfl 34 rfl (by decide) _ _ (R_and hA rfl rfl rfl _) (fun a hA => ?_)
  refine W_val hA rfl 35 rfl (by decide) _ _ (R_mov hA rfl rfl _) (fun a hA => ?_)
  refine W_val hA rfl 36 rfl (by decide) _ _ (R_mov hA rfl rfl _) (fun a hA => ?_)
  refine W_val hA rfl 37 rfl (by decide) _ _ (R_and hA rfl rfl rfl _) (fun a hA => ?_)
  refine W_val hA rfl 38 rfl (by decide) _ _ (R_neqUT hA rfl rfl rfl false (pa_low hx ha hk) _) (fun a hA => ?_)
  refine W_val hA rfl 39 rfl (by decide) _ _ (R_mov hA rfl rfl _) (fun a hA => ?_)
  refine W_gval hA rfl rfl rfl 40 rfl (by decide) _ _ (R_mov hA rfl rfl _) (fun a hA => ?_)
  refine W_gval hA rfl rfl rfl 41 rfl (by decide) _ _ (R_geqUT hA rfl rfl rfl false (by have := pa_lt (k := k) hx ha; simp; omega) _) (fun a hA => ?_)
  refine W_val hA rfl 42 rfl (by decide) _ _ (R_pick hA rfl rfl rfl _) (fun a hA => ?_)
  refine W_nil ?_
  refine then_nrm ?_
  show Code.wp Try.prog _ _ _ _
  refine wp_cond_false (hA.ev (x := .tmp 42) rfl) ?_
  refine wp_skip ?_
  refine then_nrm ?_
  show Code.wp Try.prog _ _ _ _
  refine wp_seq ?_
  refine wp_seq ?_
  refine wp_region_list ?_
  refine W_val hA rfl 43 rfl (by decide) _ _ (R_mov hA rfl rfl _) (fun a hA => ?_)
  refine W_nil ?_
  refine then_nrm ?_
  show Code.wp Try.prog _ _ _ _
  refine wp_block ?_
  refine wp_seq ?_
  refine wp_region_list ?_
  refine W_val hA rfl 45 rfl (by decide) _ _ (R_eqlIT hA rfl rfl rfl false (by decide) _) (fun a hA => ?_)
  refine W_val hA rfl 44 rfl (by decide) _ _ (R_asg hA rfl rfl _) (fun a hA => ?_)
  refine W_nil ?_
  refine then_nrm ?_
  show Code.wp Try.prog _ _ _ _
  refine wp_cond_false (hA.ev (x := .tmp 44) rfl) ?_
  refine wp_seq ?_
  refine wp_region_list ?_
  refine W_val hA rfl 69 rfl (by decide) _ _ (R_eqlIT hA rfl rfl rfl false (by decide) _) (fun a hA => ?_)
  refine W_val hA rfl 68 rfl (by decide) _ _ (R_asg hA rfl rfl _) (fun a hA => ?_)
  refine W_nil ?_
  refine then_nrm ?_
  show Code.wp Try.prog _ _ _ _
  refine wp_cond_false (hA.ev (x := .tmp 68) rfl) ?_
  refine wp_skip ?_
  refine blk_nrm ?_
  refine then_nrm ?_
  show Code.wp Try.prog _ _ _ _
  refine wp_seq ?_
  refine wp_region_list ?_
  refine W_val hA rfl 81 rfl (by decide) _ _ (R_mov hA rfl rfl _) (fun a hA => ?_)
  refine W_val hA rfl 82 rfl (by decide) _ _ (R_eqlIT hA rfl rfl rfl true (by decide) _) (fun a hA => ?_)
  refine W_val hA rfl 83 rfl (by decide) _ _ (R_mov hA rfl rfl _) (fun a hA => ?_)
  refine W_gval hA rfl rfl rfl 84 rfl (by decide) _ _ (R_mov hA rfl rfl _) (fun a hA => ?_)
  refine W_gcallB hA rfl rfl (by decide) (fun _ _ => by kernel_rfl) (args1 hA rfl) (ok_to hx ho _) (fun w5 hw a hA => ?_)
  replace HB := HB.trans (hw.mono HB.size)
  replace B7 := B7.below hw
  clear hw
  refine W_gval hA rfl rfl rfl 86 rfl (by decide) _ _ (R_not hA rfl rfl _) (fun a hA => ?_)
  refine W_gval hA rfl rfl rfl 87 rfl (by decide) _ _ (R_mov hA rfl rfl _) (fun a hA => ?_)
  refine W_gval hA rfl rfl rfl 88 rfl (by decide) _ _ (R_mov hA rfl rfl _) (fun a hA => ?_)
  refine W_gcallB hA rfl rfl (by decide) (fun _ _ => by kernel_rfl) (args1 hA rfl) (leaf_to hx hl _) (fun w6 hw a hA => ?_)
  replace HB := HB.trans (hw.mono HB.size)
  replace B7 := B7.below hw
  clear hw
  refine W_gval hA rfl rfl rfl 90 rfl (by decide) _ _ (R_not hA rfl rfl _) (fun a hA => ?_)
  refine W_gval hA rfl rfl rfl 91 rfl (by decide) _ _ (R_mov hA rfl rfl _) (fun a hA => ?_)
  refine W_gval hA rfl rfl rfl 92 rfl (by decide) _ _ (R_mov hA rfl rfl _) (fun a hA => ?_)
  refine W_gval hA rfl rfl rfl 93 rfl (by decide) _ _ (R_eqlIT hA rfl rfl rfl true (by rw [hk0]; rfl) _) (fun a hA => ?_)
  refine W_gval hA rfl rfl rfl 94 rfl (by decide) _ _ (R_pick hA rfl rfl rfl _) (fun a hA => ?_)
  refine W_gval hA rfl rfl rfl 95 rfl (by decide) _ _ (R_pick hA rfl rfl rfl _) (fun a hA => ?_)
  refine W_gval hA rfl rfl rfl 96 rfl (by decide) _ _ (R_mov hA rfl rfl _) (fun a hA => ?_)
  refine W_gskip hA rfl rfl rfl 97 rfl (by decide) (fun a hA => ?_)
  refine W_gskip hA rfl rfl rfl 98 rfl (by decide) (fun a hA => ?_)
  refine W_gskip hA rfl rfl rfl 99 rfl (by decide) (fun a hA => ?_)
  refine W_gskipU hA rfl rfl rfl 100 rfl (by decide) (fun a hA => ?_)
  refine W_gskipU hA rfl rfl rfl 101 rfl (by decide) (fun a hA => ?_)
  refine W_gskipU hA rfl rfl rfl 102 rfl (by decide) (fun a hA => ?_)
  refine W_gskipU hA rfl rfl rfl 103 rfl (by decide) (fun a hA => ?_)
  refine W_gskipU hA rfl rfl rfl 104 rfl (by decide) (fun a hA => ?_)
  refine W_gskipU hA rfl rfl rfl 105 rfl (by decide) (fun a hA => ?_)
  refine W_gskipU hA rfl rfl rfl 106 rfl (by decide) (fun a hA => ?_)
  refine W_gskipU hA rfl rfl rfl 107 rfl (by decide) (fun a hA => ?_)
  refine W_gskipU hA rfl rfl rfl 108 rfl (by decide) (fun a hA => ?_)
  refine W_gskipU hA rfl rfl rfl 109 rfl (by decide) (fun a hA => ?_)
  refine W_gskipU hA rfl rfl rfl 110 rfl (by decide) (fun a hA => ?_)
  refine W_gskipU hA rfl rfl rfl 111 rfl (by decide) (fun a hA => ?_)
  refine W_gskip hA rfl rfl rfl 112 rfl (by decide) (fun a hA => ?_)
  refine W_gval hA rfl rfl rfl 113 rfl (by decide) _ _ (R_pick hA rfl rfl rfl _) (fun a hA => ?_)
  refine W_val hA rfl 114 rfl (by decide) _ _ (R_pick hA rfl rfl rfl _) (fun a hA => ?_)
  refine W_val hA rfl 8 rfl (by decide) _ _ (R_asg hA rfl rfl _) (fun a hA => ?_)
  refine W_nil ?_
  refine then_nrm ?_
  show Code.wp Try.prog _ _ _ _
  refine wp_ret ?_
  exact ret_tmp (j := 8) (by kernel_rfl) hA (by decide) rfl ⟨rfl, HB⟩
set_option maxHeartbeats 8000000 in
theorem finds_0c (x lv y : Int) (s : WS) (k : Nat) (w : World) (hx : In64 x) (hlv : In63 lv) (ha : In64 y) (sk : WOk s) (hk : k < 3) (hr : bits .and .i64 lv 3 % 3 = (k : Int)) (h0 : 0 ≤ bits .and .i64 lv 3) (hj : judgeZ x k s = 0) (ho : okB x = true) (hl : leafB x = true) (hal : allowB x s = false)  : Calls Try.prog 8 #[.int .u64 x, .int .i64 lv, .int .u64 y, wantV s] w fun e w' => e = .returned (.bool true) ∧ Below w.heap.size w w' := by
  have HB := Below.refl w.heap.size w
  go_enter Try.func8, Try.ntmps8
  refine begin_fr [(3, wantV s), (2, .int .u64 y), (1, .int .i64 lv), (0, .int .u64 x)] 115 ?_ (fun a hA => ?_)
  · exact FrA.add (FrA.add (FrA.add (FrA.add (FrA.nil (by rfl) (by rfl)) 0 _ (by rfl)) 1 _ (by rfl)) 2 _ (by rfl)) 3 _ (by rfl)
  refine wp_seq ?_
  refine wp_region_list ?_
  refine W_boxT (cs := wantC s) hA rfl 7 rfl (by decide) rfl rfl (fun w1 bB7 a hA hb B7 gB7 => ?_)
  replace gB7 := Nat.le_trans HB.size gB7
  replace HB := HB.trans (hb.mono HB.size)
  clear hb
  refine W_val hA rfl 8 rfl (by decide) _ _ (R_asg hA rfl rfl _) (fun a hA => ?_)
  refine W_nil ?_
  refine then_nrm ?_
  show Code.wp Try.prog _ _ _ _
  refine wp_seq ?_
  refine wp_seq ?_
  refine wp_region_list ?_
  refine W_callA hA (by decide) (fun _ _ => by kernel_rfl) (args0 ) (awake_any _) (fun w2 hw a hA => ?_)
  replace HB := HB.trans (hw.mono HB.size)
  replace B7 := B7.below hw
  clear hw
  refine W_val hA rfl 14 rfl (by decide) _ _ (R_not hA rfl rfl _) (fun a hA => ?_)
  refine W_nil ?_
  refine then_nrm ?_
  show Code.wp Try.prog _ _ _ _
  refine wp_cond_false (hA.ev (x := .tmp 14) rfl) ?_
  refine wp_skip ?_
  refine then_nrm ?_
  show Code.wp Try.prog _ _ _ _
  refine wp_seq ?_
  refine wp_region_list ?_
  refine W_val hA rfl 15 rfl (by decide) _ _ (R_mov hA rfl rfl _) (fun a hA => ?_)
  refine W_val hA rfl 16 rfl (by decide) _ _ (R_andI hA rfl rfl rfl _) (fun a hA => ?_)
  refine W_val hA rfl 17 rfl (by decide) _ _ (R_remIT hA rfl h0 ⟨by decide, by decide⟩ rfl rfl (k : Int) hr _) (fun a hA => ?_)
  refine W_val hA rfl 9 rfl (by decide) _ _ (R_asg hA rfl rfl _) (fun a hA => ?_)
  refine W_nil ?_
  refine then_nrm ?_
  show Code.wp Try.prog _ _ _ _
  refine wp_seq ?_
  refine wp_region_list ?_
  refine W_val hA rfl 18 rfl (by decide) _ _ (R_mov hA rfl rfl _) (fun a hA => ?_)
  refine W_val hA rfl 19 rfl (by decide) _ _ (R_mov hA rfl rfl _) (fun a hA => ?_)
  refine W_val hA rfl 20 rfl (by decide) _ _ (R_row hA rfl rfl B7 Try.underlying25 (by kernel_rfl)) (fun a hA => ?_)
  refine W_callA hA (by decide) (fun _ _ => by kernel_rfl) (args3 hA rfl rfl rfl) (judge_to hx sk hj _) (fun w3 hw a hA => ?_)
  replace HB := HB.trans (hw.mono HB.size)
  replace B7 := B7.below hw
  clear hw
  refine W_val hA rfl 10 rfl (by decide) _ _ (R_asg hA rfl rfl _) (fun a hA => ?_)
  refine W_nil ?_
  refine then_nrm ?_
  show Code.wp Try.prog _ _ _ _
  refine wp_seq ?_
  refine wp_region_list ?_
  refine W_val hA rfl 22 rfl (by decide) _ _ (R_mov hA rfl rfl _) (fun a hA => ?_)
  refine W_val hA rfl 23 rfl (by decide) _ _ (R_mov hA rfl rfl _) (fun a hA => ?_)
  refine W_val hA rfl 24 rfl (by decide) _ _ (R_mov hA rfl rfl _) (fun a hA => ?_)
  refine W_callA hA (by decide) (fun _ _ => by kernel_rfl) (args3 hA rfl rfl rfl) (pa_any x k y hx ha _) (fun w4 hw a hA => ?_)
  replace HB := HB.trans (hw.mono HB.size)
  replace B7 := B7.below hw
  clear hw
  refine W_val hA rfl 11 rfl (by decide) _ _ (R_asg hA rfl rfl _) (fun a hA => ?_)
  refine W_nil ?_
  refine then_nrm ?_
  show Code.wp Try.prog _ _ _ _
  refine wp_seq ?_
  refine wp_region_list ?_
  refine W_val hA rfl 26 rfl (by decide) _ _ (R_mov hA rfl rfl _) (fun a hA => ?_)
  refine W_val hA rfl 27 rfl (by decide) _ _ (R_mulIT hA rfl rfl rfl ((9 * k : Nat) : Int) (by rw [IntWalk.i64_in _ (by omega)]; omega) _) (fun a hA => ?_)
  refine W_val hA rfl 28 rfl (by decide) _ _ (R_addIT hA rfl rfl rfl ((12 + 9 * k : Nat) : Int) (by rw [IntWalk.i64_in _ (by omega)]; omega) _) (fun a hA => ?_)
  refine W_val hA rfl 29 rfl (by decide) _ _ (R_cvIUT hA rfl rfl ((12 + 9 * k : Nat) : Int) (by rw [IntKind.wrap_u64]; omega) _) (fun a hA => ?_)
  refine W_val hA rfl 30 rfl (by decide) _ _ (R_shlI hA rfl (k := 12 + 9 * k) (by omega) rfl rfl _) (fun a hA => ?_)
  refine W_val hA rfl 31 rfl (by decide) _ _ (R_sub hA rfl rfl rfl ((2 : Int) ^ (12 + 9 * k) - 1) (low_sub hk) _) (fun a hA => ?_)
  refine W_val hA rfl 12 rfl (by decide) _ _ (R_asg hA rfl rfl _) (fun a hA => ?_)
  refine W_nil ?_
  refine then_nrm ?_
  show Code.wp Try.prog _ _ _ _
  refine wp_seq ?_
  refine wp_seq ?_
  refine wp_region_list ?_
  refine W_val hA rfl 32 rfl (by decide) _ _ (R_mov hA rfl rfl _) (fun a hA => ?_)
  refine W_val hA rfl 33 rfl (by decide) _ _ (R_mov hA rfl rfl _) (fun a hA => ?_)
  refine W_val hA rfl 34 rfl (by decide) _ _ (R_and hA rfl rfl rfl _) (fun a hA => ?_)
  refine W_val hA rfl 35 rfl (by decide) _ _ (R_mov hA rfl rfl _) (fun a hA => ?_)
  refine W_val hA rfl 36 rfl (by decide) _ _ (R_mov hA rfl rfl _) (fun a hA => ?_)
  refine W_val hA rfl 37 rfl (by decide) _ _ (R_and hA rfl rfl rfl _) (fun a hA => ?_)
  refine W_val hA rfl 38 rfl (by decide) _ _ (R_neqUT hA rfl rfl rfl false (pa_low hx ha hk) _) (fun a hA => ?_)
  refine W_val hA rfl 39 rfl (by decide) _ _ (R_mov hA rfl rfl _) (fun a hA => ?_)
  refine W_gval hA rfl rfl rfl 40 rfl (by decide) _ _ (R_mov hA rfl rfl _) (fun a hA => ?_)
  refine W_gval hA rfl rfl rfl 41 rfl (by decide) _ _ (R_geqUT hA rfl rfl rfl false (by have := pa_lt (k := k) hx ha; simp; omega) _) (fun a hA => ?_)
  refine W_val hA rfl 42 rfl (by decide) _ _ (R_pick hA rfl rfl rfl _) (fun a hA => ?_)
  refine W_nil ?_
  refine then_nrm ?_
  show Code.wp Try.prog _ _ _ _
  refine wp_cond_false (hA.ev (x := .tmp 42) rfl) ?_
  refine wp_skip ?_
  refine then_nrm ?_
  show Code.wp Try.prog _ _ _ _
  refine wp_seq ?_
  refine wp_seq ?_
  refine wp_region_list ?_
  refine W_val hA rfl 43 rfl (by decide) _ _ (R_mov hA rfl rfl _) (fun a hA => ?_)
  refine W_nil ?_
  refine then_nrm ?_
  show Code.wp Try.prog _ _ _ _
  refine wp_block ?_
  refine wp_seq ?_
  refine wp_region_list ?_
  refine W_val hA rfl 45 rfl (by decide) _ _ (R_eqlIT hA rfl rfl rfl false (by decide) _) (fun a hA => ?_)
  refine W_val hA rfl 44 rfl (by decide) _ _ (R_asg hA rfl rfl _) (fun a hA => ?_)
  refine W_nil ?_
  refine then_nrm ?_
  show Code.wp Try.prog _ _ _ _
  refine wp_cond_false (hA.ev (x := .tmp 44) rfl) ?_
  refine wp_seq ?_
  refine wp_region_list ?_
  refine W_val hA rfl 69 rfl (by decide) _ _ (R_eqlIT hA rfl rfl rfl false (by decide) _) (fun a hA => ?_)
  refine W_val hA rfl 68 rfl (by decide) _ _ (R_asg hA rfl rfl _) (fun a hA => ?_)
  refine W_nil ?_
  refine then_nrm ?_
  show Code.wp Try.prog _ _ _ _
  refine wp_cond_false (hA.ev (x := .tmp 68) rfl) ?_
  refine wp_skip ?_
  refine blk_nrm ?_
  refine then_nrm ?_
  show Code.wp Try.prog _ _ _ _
  refine wp_seq ?_
  refine wp_region_list ?_
  refine W_val hA rfl 81 rfl (by decide) _ _ (R_mov hA rfl rfl _) (fun a hA => ?_)
  refine W_val hA rfl 82 rfl (by decide) _ _ (R_eqlIT hA rfl rfl rfl true (by decide) _) (fun a hA => ?_)
  refine W_val hA rfl 83 rfl (by decide) _ _ (R_mov hA rfl rfl _) (fun a hA => ?_)
  refine W_gval hA rfl rfl rfl 84 rfl (by decide) _ _ (R_mov hA rfl rfl _) (fun a hA => ?_)
  refine W_gcallB hA rfl rfl (by decide) (fun _ _ => by kernel_rfl) (args1 hA rfl) (ok_to hx ho _) (fun w5 hw a hA => ?_)
  replace HB := HB.trans (hw.mono HB.size)
  replace B7 := B7.below hw
  clear hw
  refine W_gval hA rfl rfl rfl 86 rfl (by decide) _ _ (R_not hA rfl rfl _) (fun a hA => ?_)
  refine W_gval hA rfl rfl rfl 87 rfl (by decide) _ _ (R_mov hA rfl rfl _) (fun a hA => ?_)
  refine W_gval hA rfl rfl rfl 88 rfl (by decide) _ _ (R_mov hA rfl rfl _) (fun a hA => ?_)
  refine W_gcallB hA rfl rfl (by decide) (fun _ _ => by kernel_rfl) (args1 hA rfl) (leaf_to hx hl _) (fun w6 hw a hA => ?_)
  replace HB := HB.trans (hw.mono HB.size)
  replace B7 := B7.below hw
  clear hw
  refine W_gval hA rfl rfl rfl 90 rfl (by decide) _ _ (R_not hA rfl rfl _) (fun a hA => ?_)
  refine W_gval hA rfl rfl rfl 91 rfl (by decide) _ _ (R_mov hA rfl rfl _) (fun a hA => ?_)
  refine W_gskip hA rfl rfl rfl 92 rfl (by decide) (fun a hA => ?_)
  refine W_gskip hA rfl rfl rfl 93 rfl (by decide) (fun a hA => ?_)
  refine W_gval hA rfl rfl rfl 94 rfl (by decide) _ _ (R_pick hA rfl rfl rfl _) (fun a hA => ?_)
  refine W_gval hA rfl rfl rfl 95 rfl (by decide) _ _ (R_pick hA rfl rfl rfl _) (fun a hA => ?_)
  refine W_gval hA rfl rfl rfl 96 rfl (by decide) _ _ (R_mov hA rfl rfl _) (fun a hA => ?_)
  refine W_gval hA rfl rfl rfl 97 rfl (by decide) _ _ (R_mov hA rfl rfl _) (fun a hA => ?_)
  refine W_gcallB hA rfl rfl (by decide) (fun _ _ => by kernel_rfl) (args1 hA rfl) (leaf_to hx hl _) (fun w7 hw a hA => ?_)
  replace HB := HB.trans (hw.mono HB.size)
  replace B7 := B7.below hw
  clear hw
  refine W_gval hA rfl rfl rfl 99 rfl (by decide) _ _ (R_mov hA rfl rfl _) (fun a hA => ?_)
  refine W_gval hA rfl rfl rfl 100 rfl (by decide) _ _ (R_mov hA rfl rfl _) (fun a hA => ?_)
  refine W_gval hA rfl rfl rfl 101 rfl (by decide) _ _ (R_row hA rfl rfl B7 Try.underlying25 (by kernel_rfl)) (fun a hA => ?_)
  refine W_gcallB hA rfl rfl (by decide) (fun _ _ => by kernel_rfl) (args2 hA rfl rfl) (allow_to hx sk hal _) (fun w8 hw a hA => ?_)
  replace HB := HB.trans (hw.mono HB.size)
  replace B7 := B7.below hw
  clear hw
  refine W_gval hA rfl rfl rfl 103 rfl (by decide) _ _ (R_not hA rfl rfl _) (fun a hA => ?_)
  refine W_gval hA rfl rfl rfl 104 rfl (by decide) _ _ (R_mov hA rfl rfl _) (fun a hA => ?_)
  refine W_gskip hA rfl rfl rfl 105 rfl (by decide) (fun a hA => ?_)
  refine W_gskip hA rfl rfl rfl 106 rfl (by decide) (fun a hA => ?_)
  refine W_gskip hA rfl rfl rfl 107 rfl (by decide) (fun a hA => ?_)
  refine W_gskip hA rfl rfl rfl 108 rfl (by decide) (fun a hA => ?_)
  refine W_gskip hA rfl rfl rfl 109 rfl (by decide) (fun a hA => ?_)
  refine W_gskip hA rfl rfl rfl 110 rfl (by decide) (fun a hA => ?_)
  refine W_gval hA rfl rfl rfl 111 rfl (by decide) _ _ (R_pick hA rfl rfl rfl _) (fun a hA => ?_)
  refine W_gval hA rfl rfl rfl 112 rfl (by decide) _ _ (R_pick hA rfl rfl rfl _) (fun a hA => ?_)
  refine W_gval hA rfl rfl rfl 113 rfl (by decide) _ _ (R_pick hA rfl rfl rfl _) (fun a hA => ?_)
  refine W_val hA rfl 114 rfl (by decide) _ _ (R_pick hA rfl rfl rfl _) (fun a hA => ?_)
  refine W_val hA rfl 8 rfl (by decide) _ _ (R_asg hA rfl rfl _) (fun a hA => ?_)
  refine W_nil ?_
  refine then_nrm ?_
  show Code.wp Try.prog _ _ _ _
  refine wp_ret ?_
  exact ret_tmp (j := 8) (by kernel_rfl) hA (by decide) rfl ⟨rfl, HB⟩
set_option maxHeartbeats 8000000 in
theorem finds_0d (x lv y : Int) (s : WS) (k : Nat) (w : World) (hx : In64 x) (hlv : In63 lv) (ha : In64 y) (sk : WOk s) (hk : k < 3) (hr : bits .and .i64 lv 3 % 3 = (k : Int)) (h0 : 0 ≤ bits .and .i64 lv 3) (hj : judgeZ x k s = 0) (ho : okB x = true) (hl : leafB x = true) (hal : allowB x s = true) (hp : ¬ pageZ x % sizeZ k = 0) : Calls Try.prog 8 #[.int .u64 x, .int .i64 lv, .int .u64 y, wantV s] w fun e w' => e = .returned (.bool true) ∧ Below w.heap.size w w' := by
  have HB := Below.refl w.heap.size w
  go_enter Try.func8, Try.ntmps8
  refine begin_fr [(3, wantV s), (2, .int .u64 y), (1, .int .i64 lv), (0, .int .u64 x)] 115 ?_ (fun a hA => ?_)
  · exact FrA.add (FrA.add (FrA.add (FrA.add (FrA.nil (by rfl) (by rfl)) 0 _ (by rfl)) 1 _ (by rfl)) 2 _ (by rfl)) 3 _ (by rfl)
  refine wp_seq ?_
  refine wp_region_list ?_
  refine W_boxT (cs := wantC s) hA rfl 7 rfl (by decide) rfl rfl (fun w1 bB7 a hA hb B7 gB7 => ?_)
  replace gB7 := Nat.le_trans HB.size gB7
  replace HB := HB.trans (hb.mono HB.size)
  clear hb
  refine W_val hA rfl 8 rfl (by decide) _ _ (R_asg hA rfl rfl _) (fun a hA => ?_)
  refine W_nil ?_
  refine then_nrm ?_
  show Code.wp Try.prog _ _ _ _
  refine wp_seq ?_
  refine wp_seq ?_
  refine wp_region_list ?_
  refine W_callA hA (by decide) (fun _ _ => by kernel_rfl) (args0 ) (awake_any _) (fun w2 hw a hA => ?_)
  replace HB := HB.trans (hw.mono HB.size)
  replace B7 := B7.below hw
  clear hw
  refine W_val hA rfl 14 rfl (by decide) _ _ (R_not hA rfl rfl _) (fun a hA => ?_)
  refine W_nil ?_
  refine then_nrm ?_
  show Code.wp Try.prog _ _ _ _
  refine wp_cond_false (hA.ev (x := .tmp 14) rfl) ?_
  refine wp_skip ?_
  refine then_nrm ?_
  show Code.wp Try.prog _ _ _ _
  refine wp_seq ?_
  refine wp_region_list ?_
  refine W_val hA rfl 15 rfl (by decide) _ _ (R_mov hA rfl rfl _) (fun a hA => ?_)
  refine W_val hA rfl 16 rfl (by decide) _ _ (R_andI hA rfl rfl rfl _) (fun a hA => ?_)
  refine W_val hA rfl 17 rfl (by decide) _ _ (R_remIT hA rfl h0 ⟨by decide, by decide⟩ rfl rfl (k : Int) hr _) (fun a hA => ?_)
  refine W_val hA rfl 9 rfl (by decide) _ _ (R_asg hA rfl rfl _) (fun a hA => ?_)
  refine W_nil ?_
  refine then_nrm ?_
  show Code.wp Try.prog _ _ _ _
  refine wp_seq ?_
  refine wp_region_list ?_
  refine W_val hA rfl 18 rfl (by decide) _ _ (R_mov hA rfl rfl _) (fun a hA => ?_)
  refine W_val hA rfl 19 rfl (by decide) _ _ (R_mov hA rfl rfl _) (fun a hA => ?_)
  refine W_val hA rfl 20 rfl (by decide) _ _ (R_row hA rfl rfl B7 Try.underlying25 (by kernel_rfl)) (fun a hA => ?_)
  refine W_callA hA (by decide) (fun _ _ => by kernel_rfl) (args3 hA rfl rfl rfl) (judge_to hx sk hj _) (fun w3 hw a hA => ?_)
  replace HB := HB.trans (hw.mono HB.size)
  replace B7 := B7.below hw
  clear hw
  refine W_val hA rfl 10 rfl (by decide) _ _ (R_asg hA rfl rfl _) (fun a hA => ?_)
  refine W_nil ?_
  refine then_nrm ?_
  show Code.wp Try.prog _ _ _ _
  refine wp_seq ?_
  refine wp_region_list ?_
  refine W_val hA rfl 22 rfl (by decide) _ _ (R_mov hA rfl rfl _) (fun a hA => ?_)
  refine W_val hA rfl 23 rfl (by decide) _ _ (R_mov hA rfl rfl _) (fun a hA => ?_)
  refine W_val hA rfl 24 rfl (by decide) _ _ (R_mov hA rfl rfl _) (fun a hA => ?_)
  refine W_callA hA (by decide) (fun _ _ => by kernel_rfl) (args3 hA rfl rfl rfl) (pa_any x k y hx ha _) (fun w4 hw a hA => ?_)
  replace HB := HB.trans (hw.mono HB.size)
  replace B7 := B7.below hw
  clear hw
  refine W_val hA rfl 11 rfl (by decide) _ _ (R_asg hA rfl rfl _) (fun a hA => ?_)
  refine W_nil ?_
  refine then_nrm ?_
  show Code.wp Try.prog _ _ _ _
  refine wp_seq ?_
  refine wp_region_list ?_
  refine W_val hA rfl 26 rfl (by decide) _ _ (R_mov hA rfl rfl _) (fun a hA => ?_)
  refine W_val hA rfl 27 rfl (by decide) _ _ (R_mulIT hA rfl rfl rfl ((9 * k : Nat) : Int) (by rw [IntWalk.i64_in _ (by omega)]; omega) _) (fun a hA => ?_)
  refine W_val hA rfl 28 rfl (by decide) _ _ (R_addIT hA rfl rfl rfl ((12 + 9 * k : Nat) : Int) (by rw [IntWalk.i64_in _ (by omega)]; omega) _) (fun a hA => ?_)
  refine W_val hA rfl 29 rfl (by decide) _ _ (R_cvIUT hA rfl rfl ((12 + 9 * k : Nat) : Int) (by rw [IntKind.wrap_u64]; omega) _) (fun a hA => ?_)
  refine W_val hA rfl 30 rfl (by decide) _ _ (R_shlI hA rfl (k := 12 + 9 * k) (by omega) rfl rfl _) (fun a hA => ?_)
  refine W_val hA rfl 31 rfl (by decide) _ _ (R_sub hA rfl rfl rfl ((2 : Int) ^ (12 + 9 * k) - 1) (low_sub hk) _) (fun a hA => ?_)
  refine W_val hA rfl 12 rfl (by decide) _ _ (R_asg hA rfl rfl _) (fun a hA => ?_)
  refine W_nil ?_
  refine then_nrm ?_
  show Code.wp Try.prog _ _ _ _
  refine wp_seq ?_
  refine wp_seq ?_
  refine wp_region_list ?_
  refine W_val hA rfl 32 rfl (by decide) _ _ (R_mov hA rfl rfl _) (fun a hA => ?_)
  refine W_val hA rfl 33 rfl (by decide) _ _ (R_mov hA rfl rfl _) (fun a hA => ?_)
  refine W_val hA rfl 34 rfl (by decide) _ _ (R_and hA rfl rfl rfl _) (fun a hA => ?_)
  refine W_val hA rfl 35 rfl (by decide) _ _ (R_mov hA rfl rfl _) (fun a hA => ?_)
  refine W_val hA rfl 36 rfl (by decide) _ _ (R_mov hA rfl rfl _) (fun a hA => ?_)
  refine W_val hA rfl 37 rfl (by decide) _ _ (R_and hA rfl rfl rfl _) (fun a hA => ?_)
  refine W_val hA rfl 38 rfl (by decide) _ _ (R_neqUT hA rfl rfl rfl false (pa_low hx ha hk) _) (fun a hA => ?_)
  refine W_val hA rfl 39 rfl (by decide) _ _ (R_mov hA rfl rfl _) (fun a hA => ?_)
  refine W_gval hA rfl rfl rfl 40 rfl (by decide) _ _ (R_mov hA rfl rfl _) (fun a hA => ?_)
  refine W_gval hA rfl rfl rfl 41 rfl (by decide) _ _ (R_geqUT hA rfl rfl rfl false (by have := pa_lt (k := k) hx ha; simp; omega) _) (fun a hA => ?_)
  refine W_val hA rfl 42 rfl (by decide) _ _ (R_pick hA rfl rfl rfl _) (fun a hA => ?_)
  refine W_nil ?_
  refine then_nrm ?_
  show Code.wp Try.prog _ _ _ _
  refine wp_cond_false (hA.ev (x := .tmp 42) rfl) ?_
  refine wp_skip ?_
  refine then_nrm ?_
  show Code.wp Try.prog _ _ _ _
  refine wp_seq ?_
  refine wp_seq ?_
  refine wp_region_list ?_
  refine W_val hA rfl 43 rfl (by decide) _ _ (R_mov hA rfl rfl _) (fun a hA => ?_)
  refine W_nil ?_
  refine then_nrm ?_
  show Code.wp Try.prog _ _ _ _
  refine wp_block ?_
  refine wp_seq ?_
  refine wp_region_list ?_
  refine W_val hA rfl 45 rfl (by decide) _ _ (R_eqlIT hA rfl rfl rfl false (by decide) _) (fun a hA => ?_)
  refine W_val hA rfl 44 rfl (by decide) _ _ (R_asg hA rfl rfl _) (fun a hA => ?_)
  refine W_nil ?_
  refine then_nrm ?_
  show Code.wp Try.prog _ _ _ _
  refine wp_cond_false (hA.ev (x := .tmp 44) rfl) ?_
  refine wp_seq ?_
  refine wp_region_list ?_
  refine W_val hA rfl 69 rfl (by decide) _ _ (R_eqlIT hA rfl rfl rfl false (by decide) _) (fun a hA => ?_)
  refine W_val hA rfl 68 rfl (by decide) _ _ (R_asg hA rfl rfl _) (fun a hA => ?_)
  refine W_nil ?_
  refine then_nrm ?_
  show Code.wp Try.prog _ _ _ _
  refine wp_cond_false (hA.ev (x := .tmp 68) rfl) ?_
  refine wp_skip ?_
  refine blk_nrm ?_
  refine then_nrm ?_
  show Code.wp Try.prog _ _ _ _
  refine wp_seq ?_
  refine wp_region_list ?_
  refine W_val hA rfl 81 rfl (by decide) _ _ (R_mov hA rfl rfl _) (fun a hA => ?_)
  refine W_val hA rfl 82 rfl (by decide) _ _ (R_eqlIT hA rfl rfl rfl true (by decide) _) (fun a hA => ?_)
  refine W_val hA rfl 83 rfl (by decide) _ _ (R_mov hA rfl rfl _) (fun a hA => ?_)
  refine W_gval hA rfl rfl rfl 84 rfl (by decide) _ _ (R_mov hA rfl rfl _) (fun a hA => ?_)
  refine W_gcallB hA rfl rfl (by decide) (fun _ _ => by kernel_rfl) (args1 hA rfl) (ok_to hx ho _) (fun w5 hw a hA => ?_)
  replace HB := HB.trans (hw.mono HB.size)
  replace B7 := B7.below hw
  clear hw
  refine W_gval hA rfl rfl rfl 86 rfl (by decide) _ _ (R_not hA rfl rfl _) (fun a hA => ?_)
  refine W_gval hA rfl rfl rfl 87 rfl (by decide) _ _ (R_mov hA rfl rfl _) (fun a hA => ?_)
  refine W_gval hA rfl rfl rfl 88 rfl (by decide) _ _ (R_mov hA rfl rfl _) (fun a hA => ?_)
  refine W_gcallB hA rfl rfl (by decide) (fun _ _ => by kernel_rfl) (args1 hA rfl) (leaf_to hx hl _) (fun w6 hw a hA => ?_)
  replace HB := HB.trans (hw.mono HB.size)
  replace B7 := B7.below hw
  clear hw
  refine W_gval hA rfl rfl rfl 90 rfl (by decide) _ _ (R_not hA rfl rfl _) (fun a hA => ?_)
  refine W_gval hA rfl rfl rfl 91 rfl (by decide) _ _ (R_mov hA rfl rfl _) (fun a hA => ?_)
  refine W_gskip hA rfl rfl rfl 92 rfl (by decide) (fun a hA => ?_)
  refine W_gskip hA rfl rfl rfl 93 rfl (by decide) (fun a hA => ?_)
  refine W_gval hA rfl rfl rfl 94 rfl (by decide) _ _ (R_pick hA rfl rfl rfl _) (fun a hA => ?_)
  refine W_gval hA rfl rfl rfl 95 rfl (by decide) _ _ (R_pick hA rfl rfl rfl _) (fun a hA => ?_)
  refine W_gval hA rfl rfl rfl 96 rfl (by decide) _ _ (R_mov hA rfl rfl _) (fun a hA => ?_)
  refine W_gval hA rfl rfl rfl 97 rfl (by decide) _ _ (R_mov hA rfl rfl _) (fun a hA => ?_)
  refine W_gcallB hA rfl rfl (by decide) (fun _ _ => by kernel_rfl) (args1 hA rfl) (leaf_to hx hl _) (fun w7 hw a hA => ?_)
  replace HB := HB.trans (hw.mono HB.size)
  replace B7 := B7.below hw
  clear hw
  refine W_gval hA rfl rfl rfl 99 rfl (by decide) _ _ (R_mov hA rfl rfl _) (fun a hA => ?_)
  refine W_gval hA rfl rfl rfl 100 rfl (by decide) _ _ (R_mov hA rfl rfl _) (fun a hA => ?_)
  refine W_gval hA rfl rfl rfl 101 rfl (by decide) _ _ (R_row hA rfl rfl B7 Try.underlying25 (by kernel_rfl)) (fun a hA => ?_)
  refine W_gcallB hA rfl rfl (by decide) (fun _ _ => by kernel_rfl) (args2 hA rfl rfl) (allow_to hx sk hal _) (fun w8 hw a hA => ?_)
  replace HB := HB.trans (hw.mono HB.size)
  replace B7 := B7.below hw
  clear hw
  refine W_gval hA rfl rfl rfl 103 rfl (by decide) _ _ (R_not hA rfl rfl _) (fun a hA => ?_)
  refine W_gval hA rfl rfl rfl 104 rfl (by decide) _ _ (R_mov hA rfl rfl _) (fun a hA => ?_)
  refine W_gval hA rfl rfl rfl 105 rfl (by decide) _ _ (R_mov hA rfl rfl _) (fun a hA => ?_)
  refine W_gcallB hA rfl rfl (by decide) (fun _ _ => by kernel_rfl) (args1 hA rfl) (page_any x hx _) (fun w9 hw a hA => ?_)
  replace HB := HB.trans (hw.mono HB.size)
  replace B7 := B7.below hw
  clear hw
  refine W_gval hA rfl rfl rfl 107 rfl (by decide) _ _ (R_mulT hA rfl rfl rfl (pageZ x * 4096) (by have := page_lt hx; rw [IntKind.wrap_u64]; omega) _) (fun a hA => ?_)
  refine W_gval hA rfl rfl rfl 108 rfl (by decide) _ _ (R_mov hA rfl rfl _) (fun a hA => ?_)
  refine W_gval hA rfl rfl rfl 109 rfl (by decide) _ _ (R_and hA rfl rfl rfl _) (fun a hA => ?_)
  refine W_gval hA rfl rfl rfl 110 rfl (by decide) _ _ (R_neqUT hA rfl rfl rfl true (fault_pa hx hk hp) _) (fun a hA => ?_)
  refine W_gval hA rfl rfl rfl 111 rfl (by decide) _ _ (R_pick hA rfl rfl rfl _) (fun a hA => ?_)
  refine W_gval hA rfl rfl rfl 112 rfl (by decide) _ _ (R_pick hA rfl rfl rfl _) (fun a hA => ?_)
  refine W_gval hA rfl rfl rfl 113 rfl (by decide) _ _ (R_pick hA rfl rfl rfl _) (fun a hA => ?_)
  refine W_val hA rfl 114 rfl (by decide) _ _ (R_pick hA rfl rfl rfl _) (fun a hA => ?_)
  refine W_val hA rfl 8 rfl (by decide) _ _ (R_asg hA rfl rfl _) (fun a hA => ?_)
  refine W_nil ?_
  refine then_nrm ?_
  show Code.wp Try.prog _ _ _ _
  refine wp_ret ?_
  exact ret_tmp (j := 8) (by kernel_rfl) hA (by decide) rfl ⟨rfl, HB⟩
theorem pteFinds_walk (x lv a : Int) (s : WS) (w : World) (hx : In64 x) (hlv : In63 lv) (ha : In64 a) (sk : WOk s) : Calls Try.prog 8 #[.int .u64 x, .int .i64 lv, .int .u64 a, wantV s] w fun e w' => e = .returned (.bool true) ∧ Below w.heap.size w w' := by
  have h3 : bits .and .i64 lv 3 = lv % 4 := and3p hlv
  have h0 : 0 ≤ bits .and .i64 lv 3 := by rw [h3]; omega
  obtain ⟨k, hk, hr⟩ : ∃ k : Nat, k < 3 ∧ bits .and .i64 lv 3 % 3 = (k : Int) := ⟨(bits .and .i64 lv 3 % 3).toNat, by omega, by omega⟩
  have hj : judgeZ x k s = 0 ∨ judgeZ x k s = 1 ∨ judgeZ x k s = 2 := by
    unfold judgeZ
    repeat' split
    all_goals simp
  rcases hj with hj | hj | hj
  · rcases judge_0 hj with h | ⟨h1, h2, h4⟩ | ⟨h1, h2, h4⟩ | ⟨h1, h2, h4, h5⟩
    · exact finds_0a x lv a s k w hx hlv ha sk hk hr h0 hj h
    · exact finds_0b x lv a s k w hx hlv ha sk hk hr h0 hj h1 h2 h4
    · exact finds_0c x lv a s k w hx hlv ha sk hk hr h0 hj h1 h2 h4
    · exact finds_0d x lv a s k w hx hlv ha sk hk hr h0 hj h1 h2 h4 h5
  · obtain ⟨h1, h2, h4⟩ := judge_1 hj
    exact finds_1 x lv a s k w hx hlv ha sk hk hr h0 hj h1 h2 (by omega)
  · obtain ⟨h1, h2, h4, h5⟩ := judge_2 hj
    exact finds_2 x lv a s k w hx hlv ha sk hk hr h0 hj h1 h2 h4 h5
end Go.Proofs.YtflaadnlmcgfoaaR
