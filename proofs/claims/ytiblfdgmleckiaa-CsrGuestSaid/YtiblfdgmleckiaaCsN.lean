/- Layer 12: the bits of what is pending; the document's Base (written by gen_csn.py by walkf.py). -/
import Derived.Test.YtiblfdgmleckiaaCsM
namespace Go.Proofs.Ytiblfdgmleckiaa
open Go.RowKit
set_option linter.unusedVariables false
set_option maxRecDepth 100000

theorem V_whenP (b : Bool) (k : Nat) (hk : k < 64) : V (whenZ b (2 ^ k)) = if b then BitVec.twoPow 64 k else 0#64 := by
  cases b
  · rfl
  · show V (2 ^ k) = _; rw [V_pow]; rfl
theorem bit_when (b : Bool) (k : Nat) (hk : k < 64) (i : Nat) (hi : i < 64) : (V (whenZ b (2 ^ k))).getLsbD i = (b && decide (k = i)) := by
  rw [V_whenP b k hk]
  cases b
  · simp
  · simp [BitVec.getLsbD_twoPow, hk]
/-- Bit i of what is pending. -/
theorem bit_pend (t : HS) (l : LS) (i : Nat) (hi : i < 64) : (V (pendZ t l)).getLsbD i = ((V (t.n 42)).getLsbD i || (V (t.n 61)).getLsbD i || (l.ms && decide (3 = i)) || (l.mt && decide (7 = i)) || (l.me && decide (11 = i)) || (l.se && decide (9 = i)) ||
    (bitZ (t.n 58) 12 && bitZ l.g 1 && decide (10 = i)) || ((bits .and .u64 l.g (t.n 63) != 0) && decide (12 = i))) := by
  have h3 := bit_when l.ms 3 (by decide) i hi
  have h7 := bit_when l.mt 7 (by decide) i hi
  have h11 := bit_when l.me 11 (by decide) i hi
  have h9 := bit_when l.se 9 (by decide) i hi
  have h10 := bit_when (bitZ (t.n 58) 12 && bitZ l.g 1) 10 (by decide) i hi
  have h12 := bit_when (bits .and .u64 l.g (t.n 63) != 0) 12 (by decide) i hi
  rw [show (2 : Int) ^ 3 = 8 from rfl] at h3
  rw [show (2 : Int) ^ 7 = 128 from rfl] at h7
  rw [show (2 : Int) ^ 11 = 2048 from rfl] at h11
  rw [show (2 : Int) ^ 9 = 512 from rfl] at h9
  rw [show (2 : Int) ^ 10 = 1024 from rfl] at h10
  rw [show (2 : Int) ^ 12 = 4096 from rfl] at h12
  unfold pendZ
  simp only [bits_or, V_U, BitVec.getLsbD_or, h3, h7, h11, h9, h10, h12]
theorem pend_in (t : HS) (l : LS) : In64 (pendZ t l) := or_in _ _
theorem meant_836 (v : Bool) : meantZ v 836 = 836 := by cases v <;> rfl
theorem readZ_836 (t : HS) (l : LS) : readZ t l 836 = pendZ t l := by
  unfold readZ; rw [meant_836]; rfl
theorem U_ext {x y : Int} (hx : In64 x) (hy : In64 y) (h : ∀ i, i < 64 → (V x).getLsbD i = (V y).getLsbD i) : x = y := by
  rw [← U_V hx, ← U_V hy, ext64 h]
theorem base_bit (t : HS) (l : LS) : baseZ t l 836 = if (bitZ (t.n 42) 9 || bitZ (t.n 61) 9) = true then bits .or .u64 (bits .andNot .u64 (readZ t l 836) 512) 512 else bits .andNot .u64 (readZ t l 836) 512 := by
  unfold baseZ
  rw [if_pos rfl, readZ_836, readZ_836]
  have e512 : V 512 = BitVec.twoPow 64 9 := by decide +kernel
  by_cases q : (bitZ (t.n 42) 9 || bitZ (t.n 61) 9) = true
  · rw [if_pos q]
    refine U_ext (pend_in _ _) (or_in _ _) fun i hi => ?_
    rw [bit_pend _ _ i hi, bits_or, V_U, bits_andNot, V_U, e512]
    simp only [BitVec.getLsbD_or, BitVec.getLsbD_and, BitVec.getLsbD_not, BitVec.getLsbD_twoPow, decide_eq_true hi, Bool.true_and, bit_pend _ _ i hi]
    by_cases e : 9 = i
    · subst e
      have q' : ((V (t.n 42)).getLsbD 9 || (V (t.n 61)).getLsbD 9) = true := q
      generalize (V (t.n 42)).getLsbD 9 = A at *
      generalize (V (t.n 61)).getLsbD 9 = B at *
      simp [q']
    · simp [e]
  · rw [if_neg q]
    refine U_ext (pend_in _ _) (andNot_in _ _) fun i hi => ?_
    rw [bit_pend _ _ i hi, bits_andNot, V_U, e512]
    simp only [BitVec.getLsbD_and, BitVec.getLsbD_not, BitVec.getLsbD_twoPow, decide_eq_true hi, Bool.true_and, bit_pend _ _ i hi]
    by_cases e : 9 = i
    · subst e
      have q' : ((V (t.n 42)).getLsbD 9 || (V (t.n 61)).getLsbD 9) = false := by simpa [bitZ] using q
      generalize (V (t.n 42)).getLsbD 9 = A at *
      generalize (V (t.n 61)).getLsbD 9 = B at *
      simp [q']
    · simp [e]
set_option maxHeartbeats 8000000 in
theorem dbase_any (t : HS) (ok : HOk t) (l : LS) (lk : LOk l) (no : Int) (w : World) : Calls Try.prog 16 #[hartV t, linesV l, .int .i64 no] w fun e w' => e = .returned (.int .u64 (baseZ t l no)) ∧ Below w.heap.size w w' := by
  have HB := Below.refl w.heap.size w
  go_enter Try.func16, Try.ntmps16
  refine begin_fr [(2, .int .i64 no), (1, linesV l), (0, hartV t)] 27 ?_ (fun a hA => ?_)
  · exact FrA.add (FrA.add (FrA.add (FrA.nil (by rfl) (by rfl)) 0 _ (by rfl)) 1 _ (by rfl)) 2 _ (by rfl)
  refine wp_seq ?_
  refine wp_region_list ?_
  refine W_boxH hA rfl 3 rfl (by decide) rfl rfl (fun w1 bHH a hA hb HH gHH => ?_)
  replace gHH := Nat.le_trans HB.size gHH
  replace HB := HB.trans (hb.mono HB.size)
  clear hb
  refine W_boxL hA rfl 4 rfl (by decide) rfl rfl (fun w2 bLL a hA hb LL gLL => ?_)
  have nHHLL : bHH < bLL := by have := HH.lt; omega
  replace HH := HH.below hb
  replace gLL := Nat.le_trans HB.size gLL
  replace HB := HB.trans (hb.mono HB.size)
  clear hb
  refine W_val hA rfl 6 rfl (by decide) _ _ (R_asg hA rfl rfl _) (fun a hA => ?_)
  refine W_nil ?_
  refine then_nrm ?_
  show Code.wp Try.prog _ _ _ _
  refine wp_seq ?_
  refine wp_region_list ?_
  refine W_val hA rfl 8 rfl (by decide) _ _ (R_row hA rfl rfl HH Try.underlying25 (size_hart.trans (by rw [varr_size]))) (fun a hA => ?_)
  refine W_val hA rfl 9 rfl (by decide) _ _ (R_row hA rfl rfl LL Try.underlying27 (by kernel_rfl)) (fun a hA => ?_)
  refine W_val hA rfl 10 rfl (by decide) _ _ (R_mov hA rfl rfl _) (fun a hA => ?_)
  refine W_call3 hA (by decide) (fun _ _ => by kernel_rfl) rfl rfl rfl (dread_any _ ok _ lk _ _) (fun w3 hw a hA => ?_)
  replace HB := HB.trans (hw.mono HB.size)
  replace HH := HH.below hw
  replace LL := LL.below hw
  clear hw
  refine W_val hA rfl 7 rfl (by decide) _ _ (R_asg hA rfl rfl _) (fun a hA => ?_)
  refine W_nil ?_
  refine then_nrm ?_
  show Code.wp Try.prog _ _ _ _
  refine wp_seq ?_
  refine wp_seq ?_
  refine wp_region_list ?_
  refine W_val hA rfl 12 rfl (by decide) _ _ (R_mov hA rfl rfl _) (fun a hA => ?_)
  refine W_val hA rfl 13 rfl (by decide) _ _ (R_eqlI hA rfl rfl rfl _) (fun a hA => ?_)
  refine W_nil ?_
  refine then_nrm ?_
  show Code.wp Try.prog _ _ _ _
  refine wp_cond_split (hA.ev (x := .tmp 13) rfl) (fun c1 => ?_) (fun c1 => ?_)
  · skip
    refine wp_seq ?_
    refine wp_region_list ?_
    refine W_val hA rfl 14 rfl (by decide) _ _ (R_mov hA rfl rfl _) (fun a hA => ?_)
    refine W_val hA rfl 15 rfl (by decide) _ _ (R_andNot hA rfl rfl rfl _) (fun a hA => ?_)
    refine W_val hA rfl 7 rfl (by decide) _ _ (R_asg hA rfl rfl _) (fun a hA => ?_)
    refine W_nil ?_
    refine then_nrm ?_
    show Code.wp Try.prog _ _ _ _
    refine wp_seq ?_
    refine wp_region_list ?_
    refine W_val hA rfl 16 rfl (by decide) _ _ (R_fa hA rfl rfl (fun w => fa_hart _ 11 42 (by decide) rfl w) _) (fun a hA => ?_)
    refine W_val hA rfl 17 rfl (by decide) _ _ (R_ld hA rfl rfl ag_u64 (HH.u 42 (by decide) (by decide))) (fun a hA => ?_)
    refine W_call2 hA (by decide) (fun _ _ => by kernel_rfl) rfl rfl (dbit_at _ 9 (by omega) _ rfl (ok.n _) _) (fun w4 hw a hA => ?_)
    subst hw
    refine W_val hA rfl 19 rfl (by decide) _ _ (R_mov hA rfl rfl _) (fun a hA => ?_)
    refine W_split hA 19 rfl (fun c2 hA => ?_) (fun c2 hA => ?_)
    · skip
      refine W_gskip hA rfl rfl rfl 20 rfl (by decide) (fun a hA => ?_)
      refine W_gskip hA rfl rfl rfl 21 rfl (by decide) (fun a hA => ?_)
      refine W_gskip hA rfl rfl rfl 22 rfl (by decide) (fun a hA => ?_)
      refine W_val hA rfl 23 rfl (by decide) _ _ (R_pick hA rfl rfl rfl _) (fun a hA => ?_)
      refine W_nil ?_
      refine then_nrm ?_
      show Code.wp Try.prog _ _ _ _
      refine wp_cond_split (hA.ev (x := .tmp 23) rfl) (fun c3 => ?_) (fun c3 => ?_)
      · skip
        refine wp_region_list ?_
        refine W_val hA rfl 24 rfl (by decide) _ _ (R_mov hA rfl rfl _) (fun a hA => ?_)
        refine W_val hA rfl 25 rfl (by decide) _ _ (R_or hA rfl rfl rfl _) (fun a hA => ?_)
        refine W_val hA rfl 7 rfl (by decide) _ _ (R_asg hA rfl rfl _) (fun a hA => ?_)
        refine W_nil ?_
        refine then_nrm ?_
        show Code.wp Try.prog _ _ _ _
        refine wp_seq ?_
        refine wp_region_list ?_
        refine W_val hA rfl 26 rfl (by decide) _ _ (R_mov hA rfl rfl _) (fun a hA => ?_)
        refine W_val hA rfl 6 rfl (by decide) _ _ (R_asg hA rfl rfl _) (fun a hA => ?_)
        refine W_nil ?_
        refine then_nrm ?_
        show Code.wp Try.prog _ _ _ _
        refine wp_ret ?_
        refine ret_tmp (j := 6) (by kernel_rfl) hA (by decide) rfl ?_
        refine ⟨congrArg (fun x : Int => Ending.returned (.int .u64 x)) ?_, HB⟩
        have e := eq_of_beq c1
        subst e
        rw [base_bit]
        rw [show (bitZ (t.n 42) 9 || bitZ (t.n 61) 9) = true by rw [c2]; rfl]
        rfl
      refine wp_skip ?_
      refine then_nrm ?_
      show Code.wp Try.prog _ _ _ _
      refine wp_seq ?_
      refine wp_region_list ?_
      refine W_val hA rfl 26 rfl (by decide) _ _ (R_mov hA rfl rfl _) (fun a hA => ?_)
      refine W_val hA rfl 6 rfl (by decide) _ _ (R_asg hA rfl rfl _) (fun a hA => ?_)
      refine W_nil ?_
      refine then_nrm ?_
      show Code.wp Try.prog _ _ _ _
      refine wp_ret ?_
      cases c3
    refine W_gval hA rfl rfl rfl 20 rfl (by decide) _ _ (R_fa hA rfl rfl (fun w => fa_hart _ 30 61 (by decide) rfl w) _) (fun a hA => ?_)
    refine W_gval hA rfl rfl rfl 21 rfl (by decide) _ _ (R_ld hA rfl rfl ag_u64 (HH.u 61 (by decide) (by decide))) (fun a hA => ?_)
    refine W_gcall hA rfl rfl (by decide) (fun _ _ => by kernel_rfl) (args2 hA rfl rfl) (dbit_at _ 9 (by omega) _ rfl (ok.n _) _) (fun w5 hw a hA => ?_)
    subst hw
    refine W_val hA rfl 23 rfl (by decide) _ _ (R_pick hA rfl rfl rfl _) (fun a hA => ?_)
    refine W_nil ?_
    refine then_nrm ?_
    show Code.wp Try.prog _ _ _ _
    refine wp_cond_split (hA.ev (x := .tmp 23) rfl) (fun c4 => ?_) (fun c4 => ?_)
    · skip
      refine wp_region_list ?_
      refine W_val hA rfl 24 rfl (by decide) _ _ (R_mov hA rfl rfl _) (fun a hA => ?_)
      refine W_val hA rfl 25 rfl (by decide) _ _ (R_or hA rfl rfl rfl _) (fun a hA => ?_)
      refine W_val hA rfl 7 rfl (by decide) _ _ (R_asg hA rfl rfl _) (fun a hA => ?_)
      refine W_nil ?_
      refine then_nrm ?_
      show Code.wp Try.prog _ _ _ _
      refine wp_seq ?_
      refine wp_region_list ?_
      refine W_val hA rfl 26 rfl (by decide) _ _ (R_mov hA rfl rfl _) (fun a hA => ?_)
      refine W_val hA rfl 6 rfl (by decide) _ _ (R_asg hA rfl rfl _) (fun a hA => ?_)
      refine W_nil ?_
      refine then_nrm ?_
      show Code.wp Try.prog _ _ _ _
      refine wp_ret ?_
      refine ret_tmp (j := 6) (by kernel_rfl) hA (by decide) rfl ?_
      refine ⟨congrArg (fun x : Int => Ending.returned (.int .u64 x)) ?_, HB⟩
      have e := eq_of_beq c1
      subst e
      rw [base_bit]
      rw [show (bitZ (t.n 42) 9 || bitZ (t.n 61) 9) = true by rw [c2]; exact c4]
      rfl
    refine wp_skip ?_
    refine then_nrm ?_
    show Code.wp Try.prog _ _ _ _
    refine wp_seq ?_
    refine wp_region_list ?_
    refine W_val hA rfl 26 rfl (by decide) _ _ (R_mov hA rfl rfl _) (fun a hA => ?_)
    refine W_val hA rfl 6 rfl (by decide) _ _ (R_asg hA rfl rfl _) (fun a hA => ?_)
    refine W_nil ?_
    refine then_nrm ?_
    show Code.wp Try.prog _ _ _ _
    refine wp_ret ?_
    refine ret_tmp (j := 6) (by kernel_rfl) hA (by decide) rfl ?_
    refine ⟨congrArg (fun x : Int => Ending.returned (.int .u64 x)) ?_, HB⟩
    have e := eq_of_beq c1
    subst e
    rw [base_bit]
    rw [show (bitZ (t.n 42) 9 || bitZ (t.n 61) 9) = false by rw [c2]; exact c4]
    rfl
  refine wp_skip ?_
  refine then_nrm ?_
  show Code.wp Try.prog _ _ _ _
  refine wp_seq ?_
  refine wp_region_list ?_
  refine W_val hA rfl 26 rfl (by decide) _ _ (R_mov hA rfl rfl _) (fun a hA => ?_)
  refine W_val hA rfl 6 rfl (by decide) _ _ (R_asg hA rfl rfl _) (fun a hA => ?_)
  refine W_nil ?_
  refine then_nrm ?_
  show Code.wp Try.prog _ _ _ _
  refine wp_ret ?_
  refine ret_tmp (j := 6) (by kernel_rfl) hA (by decide) rfl ?_
  refine ⟨congrArg (fun x : Int => Ending.returned (.int .u64 x)) ?_, HB⟩
  unfold baseZ
  rw [if_neg (beq_eq_false_iff_ne.1 c1)]
end Go.Proofs.Ytiblfdgmleckiaa
