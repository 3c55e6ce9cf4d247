/- Layer 12: the walk of CsrViews (written by gen_csn.py by walkf.py). -/
import Derived.Test.YtiblfdgmleckiaaCsR
import Derived.Test.YtiblfdgmleckiaaWk6
namespace Go.Proofs.Ytiblfdgmleckiaa
open Go.RowKit
set_option linter.unusedVariables false
set_option maxRecDepth 100000

/-- No bit of x is beside y. -/
theorem inc_zero {x y : Int} (h : ∀ i, i < 64 → (V x).getLsbD i = true → (V y).getLsbD i = true) : bits .andNot .u64 x y = 0 := by
  rw [bits_andNot]
  have : V x &&& ~~~V y = 0#64 := ext64 fun i hi => by
    simp only [BitVec.getLsbD_and, BitVec.getLsbD_not, decide_eq_true hi, Bool.true_and]
    have := h i hi
    cases c : (V x).getLsbD i
    · simp
    · rw [this c]; simp
  rw [this]; rfl
theorem ne_of {x y : Int} (h : ∀ i, i < 64 → (V x).getLsbD i = true → (V y).getLsbD i = true) : (bits .andNot .u64 x y != 0) = false := by rw [inc_zero h]; rfl
theorem eq_of0 {x y : Int} (h : ∀ i, i < 64 → (V x).getLsbD i = true → (V y).getLsbD i = true) : (bits .andNot .u64 x y == 0) = true := by rw [inc_zero h]; rfl
theorem inc_and (x y : Int) : ∀ i, i < 64 → (V (bits .and .u64 x y)).getLsbD i = true → (V x).getLsbD i = true := fun i hi c => by rw [and_bits, Bool.and_eq_true] at c; exact c.1
section
variable (t : HS) (l : LS) (hv : t.v = false)
theorem rd (no : Int) (hv : t.v = false) : readZ t l no = readM t l no := by unfold readZ meantZ; rw [hv]; rfl
end
theorem views1_any (t : HS) (ok : HOk t) (l : LS) (no : Int) (bH bL : Nat) (w : World) (HH : HartB w bH t) (LL : LnB w bL l) : Calls Try.prog 25 (#[.int .i64 no] ++ #[.pointer (some ⟨bH, 0, none⟩), .pointer (some ⟨bL, 0, none⟩)]) w fun e w' => e = .returned (.int .u64 (readZ t l no)) ∧ Below w.heap.size w w' := by
  show Calls Try.prog 25 #[.int .i64 no, .pointer (some ⟨bH, 0, none⟩), .pointer (some ⟨bL, 0, none⟩)] w _
  have HB := Below.refl w.heap.size w
  go_enter Try.func25, Try.ntmps25
  refine begin_fr [(2, .pointer (some ⟨bL, 0, none⟩)), (1, .pointer (some ⟨bH, 0, none⟩)), (0, .int .i64 no)] 9 ?_ (fun a hA => ?_)
  · exact FrA.add (FrA.add (FrA.add (FrA.nil (by rfl) (by rfl)) 0 _ (by rfl)) 1 _ (by rfl)) 2 _ (by rfl)
  refine wp_seq ?_
  refine wp_region_list ?_
  refine W_val hA rfl 4 rfl (by decide) _ _ (R_asg hA rfl rfl _) (fun a hA => ?_)
  refine W_nil ?_
  refine then_nrm ?_
  show Code.wp Try.prog _ _ _ _
  refine wp_seq ?_
  refine wp_region_list ?_
  refine W_val hA rfl 5 rfl (by decide) _ _ (R_row hA rfl rfl HH Try.underlying25 (size_hart.trans (by rw [varr_size]))) (fun a hA => ?_)
  refine W_val hA rfl 6 rfl (by decide) _ _ (R_row hA rfl rfl LL Try.underlying27 (by kernel_rfl)) (fun a hA => ?_)
  refine W_val hA rfl 7 rfl (by decide) _ _ (R_mov hA rfl rfl _) (fun a hA => ?_)
  refine W_call3 hA (by decide) (fun _ _ => by kernel_rfl) rfl rfl rfl (read_any t ok l no _) (fun w1 hw a hA => ?_)
  replace HB := HB.trans (hw.mono HB.size)
  replace HH := HH.below hw
  replace LL := LL.below hw
  clear hw
  refine W_val hA rfl 4 rfl (by decide) _ _ (R_asg hA rfl rfl _) (fun a hA => ?_)
  refine W_nil ?_
  refine then_nrm ?_
  show Code.wp Try.prog _ _ _ _
  refine wp_ret ?_
  exact ret_tmp (j := 4) (by kernel_rfl) hA (by decide) rfl ⟨rfl, HB⟩
section
variable {s : HS} (h : Lgl s) (l : LS) (hv : s.v = false)
theorem vw_sstatus (h : Lgl s) (l : LS) (hv : s.v = false) : (bits .andNot .u64 (readZ s l 256) (readZ s l 768) != 0) = false := by
  rw [rd s l 256 hv, rd s l 768 hv]
  refine ne_of fun i hi c => ?_
  show (V (s.n 38)).getLsbD i = true
  have c' : (V (bits .or .u64 (bits .and .u64 (s.n 38) 786722) 8589934592)).getLsbD i = true := c
  rw [bits_or, V_U, BitVec.getLsbD_or, and_bits, Bool.or_eq_true, Bool.and_eq_true] at c'
  rcases c' with q | q
  · exact q.1
  · obtain ⟨q1, q2⟩ := (by decide +kernel : ∀ i, i < 64 → (V 8589934592).getLsbD i = true → (V (mkF 0)).getLsbD i = false ∧ (V (seF 0)).getLsbD i = true) i hi q
    exact (h.out 0 (by decide) i hi q1).trans q2
theorem vw_sip (s : HS) (l : LS) (hv : s.v = false) : (bits .andNot .u64 (readZ s l 324) (readZ s l 836) != 0) = false := by
  rw [rd s l 324 hv, rd s l 836 hv]; exact ne_of (inc_and _ _)
theorem vw_sie (s : HS) (l : LS) (hv : s.v = false) : (bits .andNot .u64 (readZ s l 260) (readZ s l 772) != 0) = false := by
  rw [rd s l 260 hv, rd s l 772 hv]; exact ne_of (inc_and _ _)
theorem vw_hip (s : HS) (l : LS) (hv : s.v = false) : (bits .andNot .u64 (readZ s l 1604) (readZ s l 836) != 0) = false := by
  rw [rd s l 1604 hv, rd s l 836 hv]; exact ne_of (inc_and _ _)
theorem vw_hie (s : HS) (l : LS) (hv : s.v = false) : (bits .andNot .u64 (readZ s l 1540) (readZ s l 772) != 0) = false := by
  rw [rd s l 1540 hv, rd s l 772 hv]; exact ne_of (inc_and _ _)
theorem vw_hvip (s : HS) (l : LS) (hv : s.v = false) : (bits .andNot .u64 (readZ s l 1605) (readZ s l 836) != 0) = false := by
  rw [rd s l 1605 hv, rd s l 836 hv]
  refine ne_of fun i hi c => ?_
  show (V (pendZ s l)).getLsbD i = true
  have c' : (V (s.n 61)).getLsbD i = true := c
  rw [bit_pend _ _ i hi, c']; simp
theorem half_inc (x y m : Int) (h : ∀ i, i < 64 → (V m).getLsbD i = true → (V 5188).getLsbD i = true) (h0 : (V m).getLsbD 0 = false) : (bits .andNot .u64 (IntKind.u64.wrap (bits .and .u64 x (bits .and .u64 m y) / 2 * 2)) (bits .and .u64 x 5188) == 0) = true := by
  refine eq_of0 fun i hi c => ?_
  rw [bit_half _ (and_in _ _) i hi (by rw [and_bits, and_bits, h0]; simp), and_bits, and_bits, Bool.and_eq_true, Bool.and_eq_true] at c
  rw [and_bits, c.1, h i hi c.2.1]; rfl
theorem vw_vsip (s : HS) (l : LS) (hv : s.v = false) : (bits .andNot .u64 (IntKind.u64.wrap (readZ s l 580 * 2)) (readZ s l 1604) == 0) = true := by
  rw [rd s l 580 hv, rd s l 1604 hv]; exact half_inc _ _ 1092 (by decide +kernel) (by decide +kernel)
theorem vw_vsie (s : HS) (l : LS) (hv : s.v = false) : (bits .andNot .u64 (IntKind.u64.wrap (readZ s l 516 * 2)) (readZ s l 1540) == 0) = true := by
  rw [rd s l 516 hv, rd s l 1540 hv]; exact half_inc _ _ 1092 (by decide +kernel) (by decide +kernel)
end
theorem lgl_v {s : HS} (h : Lgl s) : Lgl (s.putV false) := ⟨h.out, h.mode, h.t57, h.t66, h.t74, h.mip, h.pc, h.x0, h.priv, rfl, h.res⟩
set_option maxHeartbeats 8000000 in
theorem csrViews_walk (t : HS) (l : LS) (w : World) (ok : HOk t) (lk : LOk l) : Calls Try.prog 7 #[hartV t, linesV l] w fun e w' => e = .returned (.bool true) ∧ Below w.heap.size w w' := by
  obtain ⟨s, hs⟩ : ∃ s, s = (fixZ t).putV false := ⟨_, rfl⟩
  have ok2 : HOk s := by rw [hs]; exact (ok_fix ok).putV false
  have hl : Lgl s := by rw [hs]; exact lgl_v (lgl_fix ok)
  have hsv : s.v = false := by rw [hs]; rfl
  have HB := Below.refl w.heap.size w
  go_enter Try.func7, Try.ntmps7
  refine begin_fr [(1, linesV l), (0, hartV t)] 73 ?_ (fun a hA => ?_)
  · exact FrA.add (FrA.add (FrA.nil (by rfl) (by rfl)) 0 _ (by rfl)) 1 _ (by rfl)
  refine wp_seq ?_
  refine wp_region_list ?_
  refine W_boxH hA rfl 2 rfl (by decide) rfl rfl (fun w1 bHH a hA hb HH gHH => ?_)
  replace gHH := Nat.le_trans HB.size gHH
  replace HB := HB.trans (hb.mono HB.size)
  clear hb
  refine W_boxL hA rfl 3 rfl (by decide) rfl rfl (fun w2 bLL a hA hb LL gLL => ?_)
  have nHHLL : bHH < bLL := by have := HH.lt; omega
  replace HH := HH.below hb
  replace gLL := Nat.le_trans HB.size gLL
  replace HB := HB.trans (hb.mono HB.size)
  clear hb
  refine W_val hA rfl 4 rfl (by decide) _ _ (R_asg hA rfl rfl _) (fun a hA => ?_)
  refine W_nil ?_
  refine then_nrm ?_
  show Code.wp Try.prog _ _ _ _
  refine wp_seq ?_
  refine wp_region_list ?_
  refine W_val hA rfl 6 rfl (by decide) _ _ (R_row hA rfl rfl HH Try.underlying25 (size_hart.trans (by rw [varr_size]))) (fun a hA => ?_)
  refine W_callA hA (by decide) (fun _ _ => by kernel_rfl) (args1 hA rfl) (fix_any t ok _) (fun w3 hw a hA => ?_)
  replace HB := HB.trans (hw.mono HB.size)
  replace HH := HH.below hw
  replace LL := LL.below hw
  clear hw
  refine W_cpH hA rfl rfl rfl rfl rfl HH (fun w4 hT HN => ?_)
  replace HB := HB.trans (hT.bel _ gHH)
  replace LL := hT.lines LL (by omega)
  replace HH := HN
  clear hT HN
  refine W_nil ?_
  refine then_nrm ?_
  show Code.wp Try.prog _ _ _ _
  refine wp_seq ?_
  refine wp_region_list ?_
  refine W_val hA rfl 8 rfl (by decide) _ _ (R_fa hA rfl rfl (fun w => fa_hart _ 3 34 (by decide) rfl w) _) (fun a hA => ?_)
  refine W_stV hA rfl rfl rfl rfl rfl HH (fun w5 hT HN => ?_)
  replace HB := HB.trans (hT.bel _ gHH)
  replace LL := hT.lines LL (by omega)
  replace HH := HN
  clear hT HN
  rw [← hs] at HH
  refine W_nil ?_
  refine then_nrm ?_
  show Code.wp Try.prog _ _ _ _
  refine wp_seq ?_
  refine wp_region_list ?_
  refine W_val hA rfl 9 rfl (by decide) _ _ (R_makeFunc2 hA rfl rfl rfl _) (fun a hA => ?_)
  refine W_val hA rfl 5 rfl (by decide) _ _ (R_asg hA rfl rfl _) (fun a hA => ?_)
  refine W_nil ?_
  refine then_nrm ?_
  show Code.wp Try.prog _ _ _ _
  refine wp_seq ?_
  refine wp_seq ?_
  refine wp_region_list ?_
  refine W_val hA rfl 10 rfl (by decide) _ _ (R_mov hA rfl rfl _) (fun a hA => ?_)
  refine W_callD hA rfl rfl (by decide) rfl rfl (args1 hA rfl) (fun _ _ => by kernel_rfl) (views1_any s ok2 l 256 bHH bLL _ HH LL) (fun w6 hw a hA => ?_)
  replace HB := HB.trans (hw.mono HB.size)
  replace HH := HH.below hw
  replace LL := LL.below hw
  clear hw
  refine W_val hA rfl 12 rfl (by decide) _ _ (R_mov hA rfl rfl _) (fun a hA => ?_)
  refine W_callD hA rfl rfl (by decide) rfl rfl (args1 hA rfl) (fun _ _ => by kernel_rfl) (views1_any s ok2 l 768 bHH bLL _ HH LL) (fun w7 hw a hA => ?_)
  replace HB := HB.trans (hw.mono HB.size)
  replace HH := HH.below hw
  replace LL := LL.below hw
  clear hw
  refine W_val hA rfl 14 rfl (by decide) _ _ (R_andNot hA rfl rfl rfl _) (fun a hA => ?_)
  refine W_val hA rfl 15 rfl (by decide) _ _ (R_neqUT hA rfl rfl rfl false (vw_sstatus hl l hsv) _) (fun a hA => ?_)
  refine W_val hA rfl 16 rfl (by decide) _ _ (R_mov hA rfl rfl _) (fun a hA => ?_)
  refine W_gval hA rfl rfl rfl 17 rfl (by decide) _ _ (R_mov hA rfl rfl _) (fun a hA => ?_)
  refine W_gcallD hA rfl rfl rfl rfl (by decide) rfl rfl (args1 hA rfl) (fun _ _ => by kernel_rfl) (views1_any s ok2 l 324 bHH bLL _ HH LL) (fun w8 hw a hA => ?_)
  replace HB := HB.trans (hw.mono HB.size)
  replace HH := HH.below hw
  replace LL := LL.below hw
  clear hw
  refine W_gval hA rfl rfl rfl 19 rfl (by decide) _ _ (R_mov hA rfl rfl _) (fun a hA => ?_)
  refine W_gcallD hA rfl rfl rfl rfl (by decide) rfl rfl (args1 hA rfl) (fun _ _ => by kernel_rfl) (views1_any s ok2 l 836 bHH bLL _ HH LL) (fun w9 hw a hA => ?_)
  replace HB := HB.trans (hw.mono HB.size)
  replace HH := HH.below hw
  replace LL := LL.below hw
  clear hw
  refine W_gval hA rfl rfl rfl 21 rfl (by decide) _ _ (R_andNot hA rfl rfl rfl _) (fun a hA => ?_)
  refine W_gval hA rfl rfl rfl 22 rfl (by decide) _ _ (R_neqUT hA rfl rfl rfl false (vw_sip s l hsv) _) (fun a hA => ?_)
  refine W_val hA rfl 23 rfl (by decide) _ _ (R_pick hA rfl rfl rfl _) (fun a hA => ?_)
  refine W_val hA rfl 24 rfl (by decide) _ _ (R_mov hA rfl rfl _) (fun a hA => ?_)
  refine W_gval hA rfl rfl rfl 25 rfl (by decide) _ _ (R_mov hA rfl rfl _) (fun a hA => ?_)
  refine W_gcallD hA rfl rfl rfl rfl (by decide) rfl rfl (args1 hA rfl) (fun _ _ => by kernel_rfl) (views1_any s ok2 l 260 bHH bLL _ HH LL) (fun w10 hw a hA => ?_)
  replace HB := HB.trans (hw.mono HB.size)
  replace HH := HH.below hw
  replace LL := LL.below hw
  clear hw
  refine W_gval hA rfl rfl rfl 27 rfl (by decide) _ _ (R_mov hA rfl rfl _) (fun a hA => ?_)
  refine W_gcallD hA rfl rfl rfl rfl (by decide) rfl rfl (args1 hA rfl) (fun _ _ => by kernel_rfl) (views1_any s ok2 l 772 bHH bLL _ HH LL) (fun w11 hw a hA => ?_)
  replace HB := HB.trans (hw.mono HB.size)
  replace HH := HH.below hw
  replace LL := LL.below hw
  clear hw
  refine W_gval hA rfl rfl rfl 29 rfl (by decide) _ _ (R_andNot hA rfl rfl rfl _) (fun a hA => ?_)
  refine W_gval hA rfl rfl rfl 30 rfl (by decide) _ _ (R_neqUT hA rfl rfl rfl false (vw_sie s l hsv) _) (fun a hA => ?_)
  refine W_val hA rfl 31 rfl (by decide) _ _ (R_pick hA rfl rfl rfl _) (fun a hA => ?_)
  refine W_nil ?_
  refine then_nrm ?_
  show Code.wp Try.prog _ _ _ _
  refine wp_cond_false (hA.ev (x := .tmp 31) rfl) ?_
  refine wp_skip ?_
  refine then_nrm ?_
  show Code.wp Try.prog _ _ _ _
  refine wp_seq ?_
  refine wp_seq ?_
  refine wp_region_list ?_
  refine W_val hA rfl 32 rfl (by decide) _ _ (R_mov hA rfl rfl _) (fun a hA => ?_)
  refine W_callD hA rfl rfl (by decide) rfl rfl (args1 hA rfl) (fun _ _ => by kernel_rfl) (views1_any s ok2 l 1604 bHH bLL _ HH LL) (fun w12 hw a hA => ?_)
  replace HB := HB.trans (hw.mono HB.size)
  replace HH := HH.below hw
  replace LL := LL.below hw
  clear hw
  refine W_val hA rfl 34 rfl (by decide) _ _ (R_mov hA rfl rfl _) (fun a hA => ?_)
  refine W_callD hA rfl rfl (by decide) rfl rfl (args1 hA rfl) (fun _ _ => by kernel_rfl) (views1_any s ok2 l 836 bHH bLL _ HH LL) (fun w13 hw a hA => ?_)
  replace HB := HB.trans (hw.mono HB.size)
  replace HH := HH.below hw
  replace LL := LL.below hw
  clear hw
  refine W_val hA rfl 36 rfl (by decide) _ _ (R_andNot hA rfl rfl rfl _) (fun a hA => ?_)
  refine W_val hA rfl 37 rfl (by decide) _ _ (R_neqUT hA rfl rfl rfl false (vw_hip s l hsv) _) (fun a hA => ?_)
  refine W_val hA rfl 38 rfl (by decide) _ _ (R_mov hA rfl rfl _) (fun a hA => ?_)
  refine W_gval hA rfl rfl rfl 39 rfl (by decide) _ _ (R_mov hA rfl rfl _) (fun a hA => ?_)
  refine W_gcallD hA rfl rfl rfl rfl (by decide) rfl rfl (args1 hA rfl) (fun _ _ => by kernel_rfl) (views1_any s ok2 l 1540 bHH bLL _ HH LL) (fun w14 hw a hA => ?_)
  replace HB := HB.trans (hw.mono HB.size)
  replace HH := HH.below hw
  replace LL := LL.below hw
  clear hw
  refine W_gval hA rfl rfl rfl 41 rfl (by decide) _ _ (R_mov hA rfl rfl _) (fun a hA => ?_)
  refine W_gcallD hA rfl rfl rfl rfl (by decide) rfl rfl (args1 hA rfl) (fun _ _ => by kernel_rfl) (views1_any s ok2 l 772 bHH bLL _ HH LL) (fun w15 hw a hA => ?_)
  replace HB := HB.trans (hw.mono HB.size)
  replace HH := HH.below hw
  replace LL := LL.below hw
  clear hw
  refine W_gval hA rfl rfl rfl 43 rfl (by decide) _ _ (R_andNot hA rfl rfl rfl _) (fun a hA => ?_)
  refine W_gval hA rfl rfl rfl 44 rfl (by decide) _ _ (R_neqUT hA rfl rfl rfl false (vw_hie s l hsv) _) (fun a hA => ?_)
  refine W_val hA rfl 45 rfl (by decide) _ _ (R_pick hA rfl rfl rfl _) (fun a hA => ?_)
  refine W_val hA rfl 46 rfl (by decide) _ _ (R_mov hA rfl rfl _) (fun a hA => ?_)
  refine W_gval hA rfl rfl rfl 47 rfl (by decide) _ _ (R_mov hA rfl rfl _) (fun a hA => ?_)
  refine W_gcallD hA rfl rfl rfl rfl (by decide) rfl rfl (args1 hA rfl) (fun _ _ => by kernel_rfl) (views1_any s ok2 l 1605 bHH bLL _ HH LL) (fun w16 hw a hA => ?_)
  replace HB := HB.trans (hw.mono HB.size)
  replace HH := HH.below hw
  replace LL := LL.below hw
  clear hw
  refine W_gval hA rfl rfl rfl 49 rfl (by decide) _ _ (R_mov hA rfl rfl _) (fun a hA => ?_)
  refine W_gcallD hA rfl rfl rfl rfl (by decide) rfl rfl (args1 hA rfl) (fun _ _ => by kernel_rfl) (views1_any s ok2 l 836 bHH bLL _ HH LL) (fun w17 hw a hA => ?_)
  replace HB := HB.trans (hw.mono HB.size)
  replace HH := HH.below hw
  replace LL := LL.below hw
  clear hw
  refine W_gval hA rfl rfl rfl 51 rfl (by decide) _ _ (R_andNot hA rfl rfl rfl _) (fun a hA => ?_)
  refine W_gval hA rfl rfl rfl 52 rfl (by decide) _ _ (R_neqUT hA rfl rfl rfl false (vw_hvip s l hsv) _) (fun a hA => ?_)
  refine W_val hA rfl 53 rfl (by decide) _ _ (R_pick hA rfl rfl rfl _) (fun a hA => ?_)
  refine W_nil ?_
  refine then_nrm ?_
  show Code.wp Try.prog _ _ _ _
  refine wp_cond_false (hA.ev (x := .tmp 53) rfl) ?_
  refine wp_skip ?_
  refine then_nrm ?_
  show Code.wp Try.prog _ _ _ _
  refine wp_seq ?_
  refine wp_region_list ?_
  refine W_val hA rfl 54 rfl (by decide) _ _ (R_mov hA rfl rfl _) (fun a hA => ?_)
  refine W_callD hA rfl rfl (by decide) rfl rfl (args1 hA rfl) (fun _ _ => by kernel_rfl) (views1_any s ok2 l 580 bHH bLL _ HH LL) (fun w18 hw a hA => ?_)
  replace HB := HB.trans (hw.mono HB.size)
  replace HH := HH.below hw
  replace LL := LL.below hw
  clear hw
  refine W_val hA rfl 56 rfl (by decide) _ _ (R_shl1 hA rfl rfl rfl _) (fun a hA => ?_)
  refine W_val hA rfl 57 rfl (by decide) _ _ (R_mov hA rfl rfl _) (fun a hA => ?_)
  refine W_callD hA rfl rfl (by decide) rfl rfl (args1 hA rfl) (fun _ _ => by kernel_rfl) (views1_any s ok2 l 1604 bHH bLL _ HH LL) (fun w19 hw a hA => ?_)
  replace HB := HB.trans (hw.mono HB.size)
  replace HH := HH.below hw
  replace LL := LL.below hw
  clear hw
  refine W_val hA rfl 59 rfl (by decide) _ _ (R_andNot hA rfl rfl rfl _) (fun a hA => ?_)
  refine W_val hA rfl 60 rfl (by decide) _ _ (R_eqlUT hA rfl rfl rfl true (vw_vsip s l hsv) _) (fun a hA => ?_)
  refine W_val hA rfl 61 rfl (by decide) _ _ (R_mov hA rfl rfl _) (fun a hA => ?_)
  refine W_gval hA rfl rfl rfl 62 rfl (by decide) _ _ (R_mov hA rfl rfl _) (fun a hA => ?_)
  refine W_gcallD hA rfl rfl rfl rfl (by decide) rfl rfl (args1 hA rfl) (fun _ _ => by kernel_rfl) (views1_any s ok2 l 516 bHH bLL _ HH LL) (fun w20 hw a hA => ?_)
  replace HB := HB.trans (hw.mono HB.size)
  replace HH := HH.below hw
  replace LL := LL.below hw
  clear hw
  refine W_gval hA rfl rfl rfl 64 rfl (by decide) _ _ (R_shl1 hA rfl rfl rfl _) (fun a hA => ?_)
  refine W_gval hA rfl rfl rfl 65 rfl (by decide) _ _ (R_mov hA rfl rfl _) (fun a hA => ?_)
  refine W_gcallD hA rfl rfl rfl rfl (by decide) rfl rfl (args1 hA rfl) (fun _ _ => by kernel_rfl) (views1_any s ok2 l 1540 bHH bLL _ HH LL) (fun w21 hw a hA => ?_)
  replace HB := HB.trans (hw.mono HB.size)
  replace HH := HH.below hw
  replace LL := LL.below hw
  clear hw
  refine W_gval hA rfl rfl rfl 67 rfl (by decide) _ _ (R_andNot hA rfl rfl rfl _) (fun a hA => ?_)
  refine W_gval hA rfl rfl rfl 68 rfl (by decide) _ _ (R_eqlUT hA rfl rfl rfl true (vw_vsie s l hsv) _) (fun a hA => ?_)
  refine W_val hA rfl 69 rfl (by decide) _ _ (R_pick hA rfl rfl rfl _) (fun a hA => ?_)
  refine W_val hA rfl 70 rfl (by decide) _ _ (R_mov hA rfl rfl _) (fun a hA => ?_)
  refine W_gcallB hA rfl rfl (by decide) (fun _ _ => by kernel_rfl) (args0 ) (wakes_any _) (fun w22 hw a hA => ?_)
  replace HB := HB.trans (hw.mono HB.size)
  replace HH := HH.below hw
  replace LL := LL.below hw
  clear hw
  refine W_val hA rfl 72 rfl (by decide) _ _ (R_pick hA rfl rfl rfl _) (fun a hA => ?_)
  refine W_val hA rfl 4 rfl (by decide) _ _ (R_asg hA rfl rfl _) (fun a hA => ?_)
  refine W_nil ?_
  refine then_nrm ?_
  show Code.wp Try.prog _ _ _ _
  refine wp_ret ?_
  exact ret_tmp (j := 4) (by kernel_rfl) hA (by decide) rfl ⟨rfl, HB⟩
end Go.Proofs.Ytiblfdgmleckiaa
