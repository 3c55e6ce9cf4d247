/- Layer 12: writing, the document's (written by gen_csj.py by walkf.py). -/
import Derived.Test.YtiblfdgmleckiaaCsH
import Derived.Test.YtiblfdgmleckiaaCsI
namespace Go.Proofs.Ytiblfdgmleckiaa
open Go.RowKit
set_option linter.unusedVariables false
set_option maxRecDepth 100000

/-- The first k bits put. -/
def pzB (o m v : BitVec 64) (k : Nat) : BitVec 64 := ofF fun i => if i < k then (if m.getLsbD i then v.getLsbD i else o.getLsbD i) else o.getLsbD i
def pz (o m v : Int) (k : Nat) : Int := U (pzB (V o) (V m) (V v) k)
theorem pz_zero {o m v : Int} (h : In64 o) : pz o m v 0 = o := by
  unfold pz pzB
  simp only [Nat.not_lt_zero, if_false]
  rw [ofF_bits, U_V h]
theorem pz_all (o m v : Int) {k : Nat} (hk : 64 ≤ k) : pz o m v k = mergeZ o m v := by
  unfold pz mergeZ
  rw [bits_or, bits_andNot, bits_and, V_U, V_U]
  congr 1
  apply ext64
  intro i hi
  unfold pzB
  rw [bit_ofF, decide_eq_true hi, Bool.true_and, if_pos (by omega)]
  simp only [BitVec.getLsbD_or, BitVec.getLsbD_and, BitVec.getLsbD_not, decide_eq_true hi, Bool.true_and]
  cases (V m).getLsbD i <;> simp
theorem pz_keep {o m v : Int} {k : Nat} (hk : k < 64) (hm : bitZ m k = false) : pz o m v (k + 1) = pz o m v k := by
  unfold pz pzB
  congr 1
  refine ofF_congr fun i hi => ?_
  by_cases e : i = k
  · subst e; unfold bitZ at hm; simp [hm]
  · by_cases c : i < k
    · rw [if_pos (by omega), if_pos c]
    · rw [if_neg (by omega), if_neg c]
theorem V_pz (o m v : Int) (k : Nat) : V (pz o m v k) = pzB (V o) (V m) (V v) k := by unfold pz; rw [V_U]
theorem pz_clear {o m v : Int} {k : Nat} (hk : k < 64) (hm : bitZ m k = true) (hv : bitZ v k = false) : pz o m v (k + 1) = bits .andNot .u64 (pz o m v k) (2 ^ k) := by
  rw [bits_andNot, V_pow, V_pz]
  unfold pz
  congr 1
  apply ext64
  intro i hi
  unfold pzB bitZ at *
  simp only [BitVec.getLsbD_and, BitVec.getLsbD_not, BitVec.getLsbD_twoPow, bit_ofF, decide_eq_true hi, Bool.true_and]
  by_cases e : i = k
  · subst e; rw [if_pos (by omega), hm, hv]; simp [hi]
  · by_cases c : i < k
    · rw [if_pos (by omega), if_pos c]; simp [show ¬ k = i from fun q => e q.symm, hi]
    · rw [if_neg (by omega), if_neg c]; simp [show ¬ k = i from fun q => e q.symm, hi]
theorem pz_set {o m v : Int} {k : Nat} (hk : k < 64) (hm : bitZ m k = true) (hv : bitZ v k = true) : pz o m v (k + 1) = bits .or .u64 (bits .andNot .u64 (pz o m v k) (2 ^ k)) (2 ^ k) := by
  rw [bits_or, bits_andNot, V_U, V_pow, V_pz]
  unfold pz
  congr 1
  apply ext64
  intro i hi
  unfold pzB bitZ at *
  simp only [BitVec.getLsbD_or, BitVec.getLsbD_and, BitVec.getLsbD_not, BitVec.getLsbD_twoPow, bit_ofF, decide_eq_true hi, Bool.true_and]
  by_cases e : i = k
  · subst e; rw [if_pos (by omega), hm, hv]; simp [hk]
  · by_cases c : i < k
    · rw [if_pos (by omega), if_pos c]; simp [show ¬ k = i from fun q => e q.symm, hi]
    · rw [if_neg (by omega), if_neg c]; simp [show ¬ k = i from fun q => e q.symm, hi]
theorem wrap_upW {k : Nat} (h : k < 1000000) : IntKind.u64.wrap ((k : Int) + 1) = ((k + 1 : Nat) : Int) := by
  rw [IntKind.wrap_u64]; omega
set_option maxHeartbeats 8000000 in
theorem dput_any (o m v : Int) (ho : In64 o) (hm : In64 m) (hv : In64 v) (w : World) : Calls Try.prog 34 #[.int .u64 o, .int .u64 m, .int .u64 v] w fun e w' => e = .returned (.int .u64 (mergeZ o m v)) ∧ w = w' := by
  have HB := Below.refl w.heap.size w
  go_enter Try.func34, Try.ntmps34
  refine begin_fr [(2, .int .u64 v), (1, .int .u64 m), (0, .int .u64 o)] 29 ?_ (fun a hA => ?_)
  · exact FrA.add (FrA.add (FrA.add (FrA.nil (by rfl) (by rfl)) 0 _ (by rfl)) 1 _ (by rfl)) 2 _ (by rfl)
  refine wp_seq ?_
  refine wp_region_list ?_
  refine W_val hA rfl 6 rfl (by decide) _ _ (R_asg hA rfl rfl _) (fun a hA => ?_)
  refine W_nil ?_
  refine then_nrm ?_
  show Code.wp Try.prog _ _ _ _
  refine wp_seq ?_
  refine wp_region_list ?_
  refine W_val hA rfl 9 rfl (by decide) _ _ (R_mov hA rfl rfl _) (fun a hA => ?_)
  refine W_val hA rfl 7 rfl (by decide) _ _ (R_asg hA rfl rfl _) (fun a hA => ?_)
  refine W_nil ?_
  refine then_nrm ?_
  show Code.wp Try.prog _ _ _ _
  refine wp_seq ?_
  refine wp_seq ?_
  refine wp_region_list ?_
  refine W_val hA rfl 8 rfl (by decide) _ _ (R_asg hA rfl rfl _) (fun a hA => ?_)
  refine W_nil ?_
  refine then_nrm ?_
  show Code.wp Try.prog _ _ _ _
  refine wp_block ?_
  refine loop_cnt 8 64 (fun k a' w' => FrA [(8, .int .u64 (k : Int)), (7, .int .u64 (pz o m v k)), (2, .int .u64 v), (1, .int .u64 m), (0, .int .u64 o)] 29 a' ∧ w = w') (fun k a' w' h => ⟨_, h.1.get 8 _ rfl⟩) ⟨FrA.add (FrA.add (FrA.add (FrA.add (FrA.add (FrA.nil hA.sz hA.df) 0 _ (hA.get 0 _ rfl)) 1 _ (hA.get 1 _ rfl)) 2 _ (hA.get 2 _ rfl)) 7 _ ((hA.get 7 _ rfl).trans (congrArg (Value.int .u64) (pz_zero ho).symm))) 8 _ (hA.get 8 _ rfl), rfl⟩ (fun k a w3 hk h => ?_)
  obtain ⟨hA, hw⟩ := h
  refine wp_seq ?_
  refine wp_seq ?_
  refine wp_region_list ?_
  refine W_val hA rfl 10 rfl (by decide) _ _ (R_mov hA rfl rfl _) (fun a hA => ?_)
  refine W_val hA rfl 11 rfl (by decide) _ _ (R_lssW hA rfl rfl rfl _) (fun a hA => ?_)
  refine W_nil ?_
  refine then_nrm ?_
  show Code.wp Try.prog _ _ _ _
  refine wp_cond_split (hA.ev (x := .tmp 11) rfl) (fun c1 => ?_) (fun c1 => ?_)
  · skip
    have ck : k < 64 := by have := of_decide_eq_true c1; omega
    have hk64 := ck
    refine wp_skip ?_
    refine then_nrm ?_
    show Code.wp Try.prog _ _ _ _
    refine wp_seq ?_
    refine wp_block ?_
    refine wp_seq ?_
    refine wp_region_list ?_
    refine W_val hA rfl 14 rfl (by decide) _ _ (R_mov hA rfl rfl _) (fun a hA => ?_)
    refine W_val hA rfl 15 rfl (by decide) _ _ (R_mov hA rfl rfl _) (fun a hA => ?_)
    refine W_call2 hA (by decide) (fun _ _ => by kernel_rfl) rfl rfl (dbit_at _ k ck _ rfl (by first | exact hm | exact hv) _) (fun w1 hw a hA => ?_)
    subst hw
    refine W_nil ?_
    refine then_nrm ?_
    show Code.wp Try.prog _ _ _ _
    refine wp_cond_split (hA.ev (x := .tmp 16) rfl) (fun c2 => ?_) (fun c2 => ?_)
    · skip
      refine wp_seq ?_
      refine wp_region_list ?_
      refine W_val hA rfl 17 rfl (by decide) _ _ (R_mov hA rfl rfl _) (fun a hA => ?_)
      refine W_val hA rfl 18 rfl (by decide) _ _ (R_mov hA rfl rfl _) (fun a hA => ?_)
      refine W_val hA rfl 19 rfl (by decide) _ _ (R_shlK hA rfl hk64 rfl rfl _) (fun a hA => ?_)
      refine W_val hA rfl 20 rfl (by decide) _ _ (R_andNot hA rfl rfl rfl _) (fun a hA => ?_)
      refine W_val hA rfl 7 rfl (by decide) _ _ (R_asg hA rfl rfl _) (fun a hA => ?_)
      refine W_nil ?_
      refine then_nrm ?_
      show Code.wp Try.prog _ _ _ _
      refine wp_seq ?_
      refine wp_region_list ?_
      refine W_val hA rfl 21 rfl (by decide) _ _ (R_mov hA rfl rfl _) (fun a hA => ?_)
      refine W_val hA rfl 22 rfl (by decide) _ _ (R_mov hA rfl rfl _) (fun a hA => ?_)
      refine W_call2 hA (by decide) (fun _ _ => by kernel_rfl) rfl rfl (dbit_at _ k ck _ rfl (by first | exact hm | exact hv) _) (fun w2 hw a hA => ?_)
      subst hw
      refine W_nil ?_
      refine then_nrm ?_
      show Code.wp Try.prog _ _ _ _
      refine wp_cond_split (hA.ev (x := .tmp 23) rfl) (fun c3 => ?_) (fun c3 => ?_)
      · skip
        refine wp_region_list ?_
        refine W_val hA rfl 24 rfl (by decide) _ _ (R_mov hA rfl rfl _) (fun a hA => ?_)
        refine W_val hA rfl 25 rfl (by decide) _ _ (R_mov hA rfl rfl _) (fun a hA => ?_)
        refine W_val hA rfl 26 rfl (by decide) _ _ (R_shlK hA rfl hk64 rfl rfl _) (fun a hA => ?_)
        refine W_val hA rfl 27 rfl (by decide) _ _ (R_or hA rfl rfl rfl _) (fun a hA => ?_)
        refine W_val hA rfl 7 rfl (by decide) _ _ (R_asg hA rfl rfl _) (fun a hA => ?_)
        refine W_nil ?_
        refine blk_nrm ?_
        refine then_nrm ?_
        show Code.wp Try.prog _ _ _ _
        refine wp_region_list ?_
        refine W_val hA rfl 12 rfl (by decide) _ _ (R_mov hA rfl rfl _) (fun a hA => ?_)
        refine W_val hA rfl 13 rfl (by decide) _ _ (R_addW hA rfl rfl rfl _) (fun a hA => ?_)
        refine W_val hA rfl 8 rfl (by decide) _ _ (R_asg hA rfl rfl _) (fun a hA => ?_)
        refine W_nil ?_
        refine then_nrm ?_
        refine ⟨ck, FrA.add (FrA.add (FrA.add (FrA.add (FrA.add (FrA.nil hA.sz hA.df) 0 _ (hA.get 0 _ rfl)) 1 _ (hA.get 1 _ rfl)) 2 _ (hA.get 2 _ rfl)) 7 _ ((hA.get 7 _ rfl).trans (congrArg (Value.int .u64) (pz_set ck c2 c3).symm))) 8 _ ((hA.get 8 _ rfl).trans (congrArg (Value.int .u64) (wrap_upW (by omega)))), hw⟩
      refine wp_skip ?_
      refine blk_nrm ?_
      refine then_nrm ?_
      show Code.wp Try.prog _ _ _ _
      refine wp_region_list ?_
      refine W_val hA rfl 12 rfl (by decide) _ _ (R_mov hA rfl rfl _) (fun a hA => ?_)
      refine W_val hA rfl 13 rfl (by decide) _ _ (R_addW hA rfl rfl rfl _) (fun a hA => ?_)
      refine W_val hA rfl 8 rfl (by decide) _ _ (R_asg hA rfl rfl _) (fun a hA => ?_)
      refine W_nil ?_
      refine then_nrm ?_
      refine ⟨ck, FrA.add (FrA.add (FrA.add (FrA.add (FrA.add (FrA.nil hA.sz hA.df) 0 _ (hA.get 0 _ rfl)) 1 _ (hA.get 1 _ rfl)) 2 _ (hA.get 2 _ rfl)) 7 _ ((hA.get 7 _ rfl).trans (congrArg (Value.int .u64) (pz_clear ck c2 c3).symm))) 8 _ ((hA.get 8 _ rfl).trans (congrArg (Value.int .u64) (wrap_upW (by omega)))), hw⟩
    refine wp_skip ?_
    refine blk_nrm ?_
    refine then_nrm ?_
    show Code.wp Try.prog _ _ _ _
    refine wp_region_list ?_
    refine W_val hA rfl 12 rfl (by decide) _ _ (R_mov hA rfl rfl _) (fun a hA => ?_)
    refine W_val hA rfl 13 rfl (by decide) _ _ (R_addW hA rfl rfl rfl _) (fun a hA => ?_)
    refine W_val hA rfl 8 rfl (by decide) _ _ (R_asg hA rfl rfl _) (fun a hA => ?_)
    refine W_nil ?_
    refine then_nrm ?_
    refine ⟨ck, FrA.add (FrA.add (FrA.add (FrA.add (FrA.add (FrA.nil hA.sz hA.df) 0 _ (hA.get 0 _ rfl)) 1 _ (hA.get 1 _ rfl)) 2 _ (hA.get 2 _ rfl)) 7 _ ((hA.get 7 _ rfl).trans (congrArg (Value.int .u64) (pz_keep ck c2).symm))) 8 _ ((hA.get 8 _ rfl).trans (congrArg (Value.int .u64) (wrap_upW (by omega)))), hw⟩
  refine wp_exit ?_
  refine then_ext ?_
  refine then_ext ?_
  refine blk_eq ?_
  refine then_nrm ?_
  show Code.wp Try.prog _ _ _ _
  refine wp_seq ?_
  refine wp_region_list ?_
  refine W_val hA rfl 28 rfl (by decide) _ _ (R_mov hA rfl rfl _) (fun a hA => ?_)
  refine W_val hA rfl 6 rfl (by decide) _ _ (R_asg hA rfl rfl _) (fun a hA => ?_)
  refine W_nil ?_
  refine then_nrm ?_
  show Code.wp Try.prog _ _ _ _
  refine wp_ret ?_
  have ck : 64 ≤ k := by have := of_decide_eq_false c1; omega
  refine ret_tmp (j := 6) (by kernel_rfl) hA (by decide) rfl ⟨congrArg (fun x : Int => Ending.returned (.int .u64 x)) (pz_all o m v ck), hw⟩
theorem In64.lit {x : Int} (h : 0 ≤ x ∧ x < 18446744073709551616) : In64 x := h
theorem wrap_in (x : Int) : In64 (IntKind.u64.wrap x) := by rw [wrap_eq]; exact U_in _
theorem merge_all (o : Int) {v : Int} (hv : In64 v) : mergeZ o 18446744073709551615 v = v := by
  unfold mergeZ
  rw [bits_or, bits_andNot, bits_and, V_U, V_U, V_all]
  rw [show V o &&& ~~~BitVec.allOnes 64 = 0#64 by simp, BitVec.zero_or, BitVec.and_allOnes, U_V hv]
theorem noMode_bits (v : Int) : noModeB v = (bitZ v 12 && !bitZ v 11) := by
  unfold noModeB bitZ
  rw [bits_and]
  generalize V v = b
  rw [show V 6144 = BitVec.twoPow 64 12 ||| BitVec.twoPow 64 11 by decide +kernel]
  have h : b &&& (BitVec.twoPow 64 12 ||| BitVec.twoPow 64 11) = (if b.getLsbD 12 then BitVec.twoPow 64 12 else 0#64) ||| (if b.getLsbD 11 then BitVec.twoPow 64 11 else 0#64) := by
    rw [BitVec.and_or_distrib_left, BitVec.and_twoPow, BitVec.and_twoPow]
  rw [h]
  cases b.getLsbD 12 <;> cases b.getLsbD 11 <;> decide +kernel
theorem putZ_zero (o v : Int) : putZ 0 o v = mergeZ o (if noModeB v then bits .andNot .u64 (mkF 0) 6144 else mkF 0) v := by unfold putZ; rw [if_pos rfl]
theorem putZ_tab (k : Nat) (h : ¬ k = 0 ∧ (k = 20 ∨ k = 37 ∨ k = 29)) (o v : Int) (hq : noTabB v = false) : putZ k o v = mergeZ o (mkF k) v := by unfold putZ; rw [if_neg h.1, if_pos h.2, hq]; rfl
theorem putZ_no (k : Nat) (h : ¬ k = 0 ∧ (k = 20 ∨ k = 37 ∨ k = 29)) (o v : Int) (hq : noTabB v = true) : putZ k o v = o := by unfold putZ; rw [if_neg h.1, if_pos h.2, hq]; rfl
theorem putZ_oth (k : Nat) (h : ¬ k = 0 ∧ ¬ (k = 20 ∨ k = 37 ∨ k = 29)) (o v : Int) : putZ k o v = mergeZ o (mkF k) v := by unfold putZ; rw [if_neg h.1, if_neg h.2]
theorem writeM_fld (t : HS) (v : Int) (k : Nat) (h : k < 38) : writeM t (noF k) v = t.put (clF k) (putZ k (t.n (clF k)) v) := by
  unfold writeM; rw [ixF_no k h, if_pos h]
def docW : List Int := [256, 260, 261, 262, 320, 321, 322, 323, 324, 384, 512, 516, 517, 576, 577, 578, 579, 580, 640, 768, 770, 771, 772, 773, 774, 832, 833, 834, 835, 836, 842, 843, 1536, 1538, 1539, 1540, 1541, 1542, 1543, 1603, 1604, 1605, 1610, 1664, 2816, 2818]
theorem writeM_none (t : HS) (v : Int) {m : Int} (h : NeAll m docW) : writeM t m v = t := by
  have hm := h.mem
  have n : ∀ k, k < 38 → ¬ noF k = m := fun k hk e => hm _ ((by decide +kernel : ∀ k, k < 38 → noF k ∈ docW) k hk) e.symm
  have hx : ¬ ixF m < 38 := fun c => by
    rcases ixF_cases m with ⟨_, q⟩ | ⟨q, _⟩
    · exact n _ c q
    · omega
  unfold writeM viewW
  rw [if_neg hx, if_neg (hm 256 (by decide)), if_neg (hm 836 (by decide)), if_neg (hm 1604 (by decide)), if_neg (hm 324 (by decide)), if_neg (hm 580 (by decide)), if_neg (hm 260 (by decide)), if_neg (hm 1540 (by decide)), if_neg (hm 516 (by decide))]
set_option maxHeartbeats 8000000 in
theorem dwrite_any (t : HS) (ok : HOk t) (l : LS) (no v : Int) (hv : In64 v) (w : World) : Calls Try.prog 19 #[hartV t, linesV l, .int .i64 no, .int .u64 v] w fun e w' => e = .returned (hartV (writeZ t no v)) ∧ Below w.heap.size w w' := by
  have HB := Below.refl w.heap.size w
  go_enter Try.func19, Try.ntmps19
  refine begin_fr [(3, .int .u64 v), (2, .int .i64 no), (1, linesV l), (0, hartV t)] 325 ?_ (fun a hA => ?_)
  · exact FrA.add (FrA.add (FrA.add (FrA.add (FrA.nil (by rfl) (by rfl)) 0 _ (by rfl)) 1 _ (by rfl)) 2 _ (by rfl)) 3 _ (by rfl)
  refine wp_seq ?_
  refine wp_region_list ?_
  refine W_boxH hA rfl 4 rfl (by decide) rfl rfl (fun w1 bHH a hA hb HH gHH => ?_)
  replace gHH := Nat.le_trans HB.size gHH
  replace HB := HB.trans (hb.mono HB.size)
  clear hb
  refine W_boxL hA rfl 5 rfl (by decide) rfl rfl (fun w2 bLL a hA hb LL gLL => ?_)
  have nHHLL : bHH < bLL := by have := HH.lt; omega
  replace HH := HH.below hb
  replace gLL := Nat.le_trans HB.size gLL
  replace HB := HB.trans (hb.mono HB.size)
  clear hb
  refine W_allocH hA rfl 8 rfl (by decide) rfl (fun w3 bRR a hA hb RR gRR => ?_)
  have nHHRR : bHH < bRR := by have := HH.lt; omega
  replace HH := HH.below hb
  have nLLRR : bLL < bRR := by have := LL.lt; omega
  replace LL := LL.below hb
  replace gRR := Nat.le_trans HB.size gRR
  replace HB := HB.trans (hb.mono HB.size)
  clear hb
  refine W_nil ?_
  refine then_nrm ?_
  show Code.wp Try.prog _ _ _ _
  refine wp_seq ?_
  refine wp_seq ?_
  refine wp_region_list ?_
  refine W_val hA rfl 9 rfl (by decide) _ _ (R_row hA rfl rfl HH Try.underlying25 (size_hart.trans (by rw [varr_size]))) (fun a hA => ?_)
  refine W_val hA rfl 10 rfl (by decide) _ _ (R_mov hA rfl rfl _) (fun a hA => ?_)
  refine W_call2 hA (by decide) (fun _ _ => by kernel_rfl) rfl rfl (dmeant_any _ _ _) (fun w4 hw a hA => ?_)
  replace HB := HB.trans (hw.mono HB.size)
  replace HH := HH.below hw
  replace LL := LL.below hw
  replace RR := RR.below hw
  clear hw
  generalize hm : meantZ t.v no = m at hA
  refine W_nil ?_
  refine then_nrm ?_
  show Code.wp Try.prog _ _ _ _
  refine wp_block ?_
  refine W_test hA rfl (by decide) (by decide) rfl rfl (fun c1 a hA => ?_) (fun c1 a hA => ?_)
  · skip
    refine wp_region_list ?_
    refine W_val hA rfl 14 rfl (by decide) _ _ (R_fa hA rfl rfl (fun w => fa_hart _ 7 38 (by decide) rfl w) _) (fun a hA => ?_)
    refine W_val hA rfl 15 rfl (by decide) _ _ (R_ld hA rfl rfl ag_u64 (HH.u 38 (by decide) (by decide))) (fun a hA => ?_)
    refine W_val hA rfl 16 rfl (by decide) _ _ (R_mov hA rfl rfl _) (fun a hA => ?_)
    refine W_call3 hA (by decide) (fun _ _ => by kernel_rfl) rfl rfl rfl (dput_any _ _ _ (by first | exact ok.n _ | exact HOk.n HO _) (by first | exact and_in _ _ | (unfold In64; decide) | exact In64.lit (by decide)) (by first | exact hv | exact wrap_in _) _) (fun w5 hw a hA => ?_)
    subst hw
    refine W_val hA rfl 18 rfl (by decide) _ _ (R_fa hA rfl rfl (fun w => fa_hart _ 7 38 (by decide) rfl w) _) (fun a hA => ?_)
    refine W_stU hA rfl rfl rfl rfl rfl HH (by decide) (by decide) (fun w6 hT HN => ?_)
    replace HB := HB.trans (hT.bel _ gHH)
    replace LL := hT.lines LL (by omega)
    replace RR := hT.hart RR (by omega)
    replace HH := HN
    clear hT HN
    refine W_nil ?_
    refine blk_nrm ?_
    refine then_nrm ?_
    show Code.wp Try.prog _ _ _ _
    refine wp_seq ?_
    refine wp_region_list ?_
    refine W_val hA rfl 324 rfl (by decide) _ _ (R_row hA rfl rfl HH Try.underlying25 (size_hart.trans (by rw [varr_size]))) (fun a hA => ?_)
    refine W_cpH hA rfl rfl rfl rfl rfl RR (fun w7 hT HN => ?_)
    replace HB := HB.trans (hT.bel _ gRR)
    replace HH := hT.hart HH (by omega)
    replace LL := hT.lines LL (by omega)
    replace RR := HN
    clear hT HN
    refine W_nil ?_
    refine then_nrm ?_
    show Code.wp Try.prog _ _ _ _
    refine wp_ret ?_
    refine ret_hart (j := 8) (by kernel_rfl) hA rfl RR ?_
    refine ⟨congrArg (fun s : HS => Ending.returned (hartV s)) ?_, HB⟩
    unfold writeZ
    rw [hm]
    have e := eq_of_beq c1
    subst e
    rfl
  refine W_test hA rfl (by decide) (by decide) rfl rfl (fun c2 a hA => ?_) (fun c2 a hA => ?_)
  · skip
    refine wp_region_list ?_
    refine W_val hA rfl 21 rfl (by decide) _ _ (R_fa hA rfl rfl (fun w => fa_hart _ 10 41 (by decide) rfl w) _) (fun a hA => ?_)
    refine W_val hA rfl 22 rfl (by decide) _ _ (R_ld hA rfl rfl ag_u64 (HH.u 41 (by decide) (by decide))) (fun a hA => ?_)
    refine W_val hA rfl 23 rfl (by decide) _ _ (R_fa hA rfl rfl (fun w => fa_hart _ 9 40 (by decide) rfl w) _) (fun a hA => ?_)
    refine W_val hA rfl 24 rfl (by decide) _ _ (R_ld hA rfl rfl ag_u64 (HH.u 40 (by decide) (by decide))) (fun a hA => ?_)
    refine W_val hA rfl 25 rfl (by decide) _ _ (R_and hA rfl rfl rfl _) (fun a hA => ?_)
    refine W_val hA rfl 26 rfl (by decide) _ _ (R_mov hA rfl rfl _) (fun a hA => ?_)
    refine W_call3 hA (by decide) (fun _ _ => by kernel_rfl) rfl rfl rfl (dput_any _ _ _ (by first | exact ok.n _ | exact HOk.n HO _) (by first | exact and_in _ _ | (unfold In64; decide) | exact In64.lit (by decide)) (by first | exact hv | exact wrap_in _) _) (fun w8 hw a hA => ?_)
    subst hw
    refine W_val hA rfl 28 rfl (by decide) _ _ (R_fa hA rfl rfl (fun w => fa_hart _ 10 41 (by decide) rfl w) _) (fun a hA => ?_)
    refine W_stU hA rfl rfl rfl rfl rfl HH (by decide) (by decide) (fun w9 hT HN => ?_)
    replace HB := HB.trans (hT.bel _ gHH)
    replace LL := hT.lines LL (by omega)
    replace RR := hT.hart RR (by omega)
    replace HH := HN
    clear hT HN
    refine W_nil ?_
    refine blk_nrm ?_
    refine then_nrm ?_
    show Code.wp Try.prog _ _ _ _
    refine wp_seq ?_
    refine wp_region_list ?_
    refine W_val hA rfl 324 rfl (by decide) _ _ (R_row hA rfl rfl HH Try.underlying25 (size_hart.trans (by rw [varr_size]))) (fun a hA => ?_)
    refine W_cpH hA rfl rfl rfl rfl rfl RR (fun w10 hT HN => ?_)
    replace HB := HB.trans (hT.bel _ gRR)
    replace HH := hT.hart HH (by omega)
    replace LL := hT.lines LL (by omega)
    replace RR := HN
    clear hT HN
    refine W_nil ?_
    refine then_nrm ?_
    show Code.wp Try.prog _ _ _ _
    refine wp_ret ?_
    refine ret_hart (j := 8) (by kernel_rfl) hA rfl RR ?_
    refine ⟨congrArg (fun s : HS => Ending.returned (hartV s)) ?_, HB⟩
    unfold writeZ
    rw [hm]
    have e := eq_of_beq c2
    subst e
    rfl
  refine W_test hA rfl (by decide) (by decide) rfl rfl (fun c3 a hA => ?_) (fun c3 a hA => ?_)
  · skip
    refine still_tail 6 (by kernel_rfl) (fun w4 hw => ?_)
    replace HB := HB.trans (hw.mono HB.size)
    replace HH := HH.below hw
    replace LL := LL.below hw
    replace RR := RR.below hw
    clear hw
    refine S_val hA rfl 31 rfl (by decide) _ (R_fa hA rfl rfl (fun w => fa_hart _ 20 51 (by decide) rfl w) _) (fun a hA => ?_)
    refine S_val hA rfl 32 rfl (by decide) _ (R_ld hA rfl rfl ag_u64 (HH.u 51 (by decide) (by decide))) (fun a hA => ?_)
    refine S_call hA (by decide) (fun _ _ => by kernel_rfl) (args1 hA rfl) (dbut_any _ 18446744073709551613 (by kernel_rfl) _) (fun a hA => ?_)
    refine S_val hA rfl 34 rfl (by decide) _ (R_mov hA rfl rfl _) (fun a hA => ?_)
    refine S_call hA (by decide) (fun _ _ => by kernel_rfl) (args3 hA rfl rfl rfl) (dput_any _ _ _ (by first | exact ok.n _ | exact HOk.n HO _) (by first | exact and_in _ _ | (unfold In64; decide) | exact In64.lit (by decide)) (by first | exact hv | exact wrap_in _) _) (fun a hA => ?_)
    refine S_val hA rfl 36 rfl (by decide) _ (R_fa hA rfl rfl (fun w => fa_hart _ 20 51 (by decide) rfl w) _) (fun a hA => ?_)
    refine still_nil ?_
    refine W_stU hA rfl rfl rfl rfl rfl HH (by decide) (by decide) (fun w11 hT HN => ?_)
    replace HB := HB.trans (hT.bel _ gHH)
    replace LL := hT.lines LL (by omega)
    replace RR := hT.hart RR (by omega)
    replace HH := HN
    clear hT HN
    refine W_nil ?_
    refine blk_nrm ?_
    refine then_nrm ?_
    show Code.wp Try.prog _ _ _ _
    refine wp_seq ?_
    refine wp_region_list ?_
    refine W_val hA rfl 324 rfl (by decide) _ _ (R_row hA rfl rfl HH Try.underlying25 (size_hart.trans (by rw [varr_size]))) (fun a hA => ?_)
    refine W_cpH hA rfl rfl rfl rfl rfl RR (fun w12 hT HN => ?_)
    replace HB := HB.trans (hT.bel _ gRR)
    replace HH := hT.hart HH (by omega)
    replace LL := hT.lines LL (by omega)
    replace RR := HN
    clear hT HN
    refine W_nil ?_
    refine then_nrm ?_
    show Code.wp Try.prog _ _ _ _
    refine wp_ret ?_
    refine ret_hart (j := 8) (by kernel_rfl) hA rfl RR ?_
    refine ⟨congrArg (fun s : HS => Ending.returned (hartV s)) ?_, HB⟩
    unfold writeZ
    rw [hm]
    have e := eq_of_beq c3
    subst e
    refine Eq.trans ?_ (writeM_fld t v 14 (by omega)).symm
    refine congrArg (t.put 51) ?_
    refine Eq.trans ?_ (putZ_oth 14 (by decide) (t.n 51) v).symm
    rfl
  refine W_test hA rfl (by decide) (by decide) rfl rfl (fun c4 a hA => ?_) (fun c4 a hA => ?_)
  · skip
    refine wp_region_list ?_
    refine W_val hA rfl 39 rfl (by decide) _ _ (R_fa hA rfl rfl (fun w => fa_hart _ 21 52 (by decide) rfl w) _) (fun a hA => ?_)
    refine W_val hA rfl 40 rfl (by decide) _ _ (R_ld hA rfl rfl ag_u64 (HH.u 52 (by decide) (by decide))) (fun a hA => ?_)
    refine W_val hA rfl 41 rfl (by decide) _ _ (R_mov hA rfl rfl _) (fun a hA => ?_)
    refine W_call3 hA (by decide) (fun _ _ => by kernel_rfl) rfl rfl rfl (dput_any _ _ _ (by first | exact ok.n _ | exact HOk.n HO _) (by first | exact and_in _ _ | (unfold In64; decide) | exact In64.lit (by decide)) (by first | exact hv | exact wrap_in _) _) (fun w13 hw a hA => ?_)
    subst hw
    refine W_val hA rfl 43 rfl (by decide) _ _ (R_fa hA rfl rfl (fun w => fa_hart _ 21 52 (by decide) rfl w) _) (fun a hA => ?_)
    refine W_stU hA rfl rfl rfl rfl rfl HH (by decide) (by decide) (fun w14 hT HN => ?_)
    replace HB := HB.trans (hT.bel _ gHH)
    replace LL := hT.lines LL (by omega)
    replace RR := hT.hart RR (by omega)
    replace HH := HN
    clear hT HN
    refine W_nil ?_
    refine blk_nrm ?_
    refine then_nrm ?_
    show Code.wp Try.prog _ _ _ _
    refine wp_seq ?_
    refine wp_region_list ?_
    refine W_val hA rfl 324 rfl (by decide) _ _ (R_row hA rfl rfl HH Try.underlying25 (size_hart.trans (by rw [varr_size]))) (fun a hA => ?_)
    refine W_cpH hA rfl rfl rfl rfl rfl RR (fun w15 hT HN => ?_)
    replace HB := HB.trans (hT.bel _ gRR)
    replace HH := hT.hart HH (by omega)
    replace LL := hT.lines LL (by omega)
    replace RR := HN
    clear hT HN
    refine W_nil ?_
    refine then_nrm ?_
    show Code.wp Try.prog _ _ _ _
    refine wp_ret ?_
    refine ret_hart (j := 8) (by kernel_rfl) hA rfl RR ?_
    refine ⟨congrArg (fun s : HS => Ending.returned (hartV s)) ?_, HB⟩
    unfold writeZ
    rw [hm]
    have e := eq_of_beq c4
    subst e
    refine Eq.trans ?_ (writeM_fld t v 15 (by omega)).symm
    refine congrArg (t.put 52) ?_
    refine Eq.trans ?_ (putZ_oth 15 (by decide) (t.n 52) v).symm
    rfl
  refine W_test hA rfl (by decide) (by decide) rfl rfl (fun c5 a hA => ?_) (fun c5 a hA => ?_)
  · skip
    refine wp_region_list ?_
    refine W_val hA rfl 46 rfl (by decide) _ _ (R_mov hA rfl rfl _) (fun a hA => ?_)
    refine W_val hA rfl 47 rfl (by decide) _ _ (R_fa hA rfl rfl (fun w => fa_hart _ 22 53 (by decide) rfl w) _) (fun a hA => ?_)
    refine W_stU hA rfl rfl rfl rfl rfl HH (by decide) (by decide) (fun w16 hT HN => ?_)
    replace HB := HB.trans (hT.bel _ gHH)
    replace LL := hT.lines LL (by omega)
    replace RR := hT.hart RR (by omega)
    replace HH := HN
    clear hT HN
    refine W_nil ?_
    refine blk_nrm ?_
    refine then_nrm ?_
    show Code.wp Try.prog _ _ _ _
    refine wp_seq ?_
    refine wp_region_list ?_
    refine W_val hA rfl 324 rfl (by decide) _ _ (R_row hA rfl rfl HH Try.underlying25 (size_hart.trans (by rw [varr_size]))) (fun a hA => ?_)
    refine W_cpH hA rfl rfl rfl rfl rfl RR (fun w17 hT HN => ?_)
    replace HB := HB.trans (hT.bel _ gRR)
    replace HH := hT.hart HH (by omega)
    replace LL := hT.lines LL (by omega)
    replace RR := HN
    clear hT HN
    refine W_nil ?_
    refine then_nrm ?_
    show Code.wp Try.prog _ _ _ _
    refine wp_ret ?_
    refine ret_hart (j := 8) (by kernel_rfl) hA rfl RR ?_
    refine ⟨congrArg (fun s : HS => Ending.returned (hartV s)) ?_, HB⟩
    unfold writeZ
    rw [hm]
    have e := eq_of_beq c5
    subst e
    refine Eq.trans ?_ (writeM_fld t v 16 (by omega)).symm
    refine congrArg (t.put 53) ?_
    refine Eq.trans ?_ (putZ_oth 16 (by decide) (t.n 53) v).symm
    exact (merge_all _ hv).symm
  refine W_test hA rfl (by decide) (by decide) rfl rfl (fun c6 a hA => ?_) (fun c6 a hA => ?_)
  · skip
    refine still_tail 6 (by kernel_rfl) (fun w4 hw => ?_)
    replace HB := HB.trans (hw.mono HB.size)
    replace HH := HH.below hw
    replace LL := LL.below hw
    replace RR := RR.below hw
    clear hw
    refine S_val hA rfl 50 rfl (by decide) _ (R_fa hA rfl rfl (fun w => fa_hart _ 23 54 (by decide) rfl w) _) (fun a hA => ?_)
    refine S_val hA rfl 51 rfl (by decide) _ (R_ld hA rfl rfl ag_u64 (HH.u 54 (by decide) (by decide))) (fun a hA => ?_)
    refine S_call hA (by decide) (fun _ _ => by kernel_rfl) (args1 hA rfl) (dbut_any _ 18446744073709551612 (by kernel_rfl) _) (fun a hA => ?_)
    refine S_val hA rfl 53 rfl (by decide) _ (R_mov hA rfl rfl _) (fun a hA => ?_)
    refine S_call hA (by decide) (fun _ _ => by kernel_rfl) (args3 hA rfl rfl rfl) (dput_any _ _ _ (by first | exact ok.n _ | exact HOk.n HO _) (by first | exact and_in _ _ | (unfold In64; decide) | exact In64.lit (by decide)) (by first | exact hv | exact wrap_in _) _) (fun a hA => ?_)
    refine S_val hA rfl 55 rfl (by decide) _ (R_fa hA rfl rfl (fun w => fa_hart _ 23 54 (by decide) rfl w) _) (fun a hA => ?_)
    refine still_nil ?_
    refine W_stU hA rfl rfl rfl rfl rfl HH (by decide) (by decide) (fun w18 hT HN => ?_)
    replace HB := HB.trans (hT.bel _ gHH)
    replace LL := hT.lines LL (by omega)
    replace RR := hT.hart RR (by omega)
    replace HH := HN
    clear hT HN
    refine W_nil ?_
    refine blk_nrm ?_
    refine then_nrm ?_
    show Code.wp Try.prog _ _ _ _
    refine wp_seq ?_
    refine wp_region_list ?_
    refine W_val hA rfl 324 rfl (by decide) _ _ (R_row hA rfl rfl HH Try.underlying25 (size_hart.trans (by rw [varr_size]))) (fun a hA => ?_)
    refine W_cpH hA rfl rfl rfl rfl rfl RR (fun w19 hT HN => ?_)
    replace HB := HB.trans (hT.bel _ gRR)
    replace HH := hT.hart HH (by omega)
    replace LL := hT.lines LL (by omega)
    replace RR := HN
    clear hT HN
    refine W_nil ?_
    refine then_nrm ?_
    show Code.wp Try.prog _ _ _ _
    refine wp_ret ?_
    refine ret_hart (j := 8) (by kernel_rfl) hA rfl RR ?_
    refine ⟨congrArg (fun s : HS => Ending.returned (hartV s)) ?_, HB⟩
    unfold writeZ
    rw [hm]
    have e := eq_of_beq c6
    subst e
    refine Eq.trans ?_ (writeM_fld t v 17 (by omega)).symm
    refine congrArg (t.put 54) ?_
    refine Eq.trans ?_ (putZ_oth 17 (by decide) (t.n 54) v).symm
    rfl
  refine W_test hA rfl (by decide) (by decide) rfl rfl (fun c7 a hA => ?_) (fun c7 a hA => ?_)
  · skip
    refine wp_region_list ?_
    refine W_val hA rfl 58 rfl (by decide) _ _ (R_mov hA rfl rfl _) (fun a hA => ?_)
    refine W_val hA rfl 59 rfl (by decide) _ _ (R_fa hA rfl rfl (fun w => fa_hart _ 24 55 (by decide) rfl w) _) (fun a hA => ?_)
    refine W_stU hA rfl rfl rfl rfl rfl HH (by decide) (by decide) (fun w20 hT HN => ?_)
    replace HB := HB.trans (hT.bel _ gHH)
    replace LL := hT.lines LL (by omega)
    replace RR := hT.hart RR (by omega)
    replace HH := HN
    clear hT HN
    refine W_nil ?_
    refine blk_nrm ?_
    refine then_nrm ?_
    show Code.wp Try.prog _ _ _ _
    refine wp_seq ?_
    refine wp_region_list ?_
    refine W_val hA rfl 324 rfl (by decide) _ _ (R_row hA rfl rfl HH Try.underlying25 (size_hart.trans (by rw [varr_size]))) (fun a hA => ?_)
    refine W_cpH hA rfl rfl rfl rfl rfl RR (fun w21 hT HN => ?_)
    replace HB := HB.trans (hT.bel _ gRR)
    replace HH := hT.hart HH (by omega)
    replace LL := hT.lines LL (by omega)
    replace RR := HN
    clear hT HN
    refine W_nil ?_
    refine then_nrm ?_
    show Code.wp Try.prog _ _ _ _
    refine wp_ret ?_
    refine ret_hart (j := 8) (by kernel_rfl) hA rfl RR ?_
    refine ⟨congrArg (fun s : HS => Ending.returned (hartV s)) ?_, HB⟩
    unfold writeZ
    rw [hm]
    have e := eq_of_beq c7
    subst e
    refine Eq.trans ?_ (writeM_fld t v 18 (by omega)).symm
    refine congrArg (t.put 55) ?_
    refine Eq.trans ?_ (putZ_oth 18 (by decide) (t.n 55) v).symm
    exact (merge_all _ hv).symm
  refine W_test hA rfl (by decide) (by decide) rfl rfl (fun c8 a hA => ?_) (fun c8 a hA => ?_)
  · skip
    refine wp_region_list ?_
    refine W_val hA rfl 62 rfl (by decide) _ _ (R_mov hA rfl rfl _) (fun a hA => ?_)
    refine W_val hA rfl 63 rfl (by decide) _ _ (R_fa hA rfl rfl (fun w => fa_hart _ 25 56 (by decide) rfl w) _) (fun a hA => ?_)
    refine W_stU hA rfl rfl rfl rfl rfl HH (by decide) (by decide) (fun w22 hT HN => ?_)
    replace HB := HB.trans (hT.bel _ gHH)
    replace LL := hT.lines LL (by omega)
    replace RR := hT.hart RR (by omega)
    replace HH := HN
    clear hT HN
    refine W_nil ?_
    refine blk_nrm ?_
    refine then_nrm ?_
    show Code.wp Try.prog _ _ _ _
    refine wp_seq ?_
    refine wp_region_list ?_
    refine W_val hA rfl 324 rfl (by decide) _ _ (R_row hA rfl rfl HH Try.underlying25 (size_hart.trans (by rw [varr_size]))) (fun a hA => ?_)
    refine W_cpH hA rfl rfl rfl rfl rfl RR (fun w23 hT HN => ?_)
    replace HB := HB.trans (hT.bel _ gRR)
    replace HH := hT.hart HH (by omega)
    replace LL := hT.lines LL (by omega)
    replace RR := HN
    clear hT HN
    refine W_nil ?_
    refine then_nrm ?_
    show Code.wp Try.prog _ _ _ _
    refine wp_ret ?_
    refine ret_hart (j := 8) (by kernel_rfl) hA rfl RR ?_
    refine ⟨congrArg (fun s : HS => Ending.returned (hartV s)) ?_, HB⟩
    unfold writeZ
    rw [hm]
    have e := eq_of_beq c8
    subst e
    refine Eq.trans ?_ (writeM_fld t v 19 (by omega)).symm
    refine congrArg (t.put 56) ?_
    refine Eq.trans ?_ (putZ_oth 19 (by decide) (t.n 56) v).symm
    exact (merge_all _ hv).symm
  refine W_test hA rfl (by decide) (by decide) rfl rfl (fun c9 a hA => ?_) (fun c9 a hA => ?_)
  · skip
    refine wp_region_list ?_
    refine W_val hA rfl 66 rfl (by decide) _ _ (R_fa hA rfl rfl (fun w => fa_hart _ 11 42 (by decide) rfl w) _) (fun a hA => ?_)
    refine W_val hA rfl 67 rfl (by decide) _ _ (R_ld hA rfl rfl ag_u64 (HH.u 42 (by decide) (by decide))) (fun a hA => ?_)
    refine W_val hA rfl 68 rfl (by decide) _ _ (R_fa hA rfl rfl (fun w => fa_hart _ 9 40 (by decide) rfl w) _) (fun a hA => ?_)
    refine W_val hA rfl 69 rfl (by decide) _ _ (R_ld hA rfl rfl ag_u64 (HH.u 40 (by decide) (by decide))) (fun a hA => ?_)
    refine W_val hA rfl 70 rfl (by decide) _ _ (R_and hA rfl rfl rfl _) (fun a hA => ?_)
    refine W_val hA rfl 71 rfl (by decide) _ _ (R_mov hA rfl rfl _) (fun a hA => ?_)
    refine W_call3 hA (by decide) (fun _ _ => by kernel_rfl) rfl rfl rfl (dput_any _ _ _ (by first | exact ok.n _ | exact HOk.n HO _) (by first | exact and_in _ _ | (unfold In64; decide) | exact In64.lit (by decide)) (by first | exact hv | exact wrap_in _) _) (fun w24 hw a hA => ?_)
    subst hw
    refine W_val hA rfl 73 rfl (by decide) _ _ (R_fa hA rfl rfl (fun w => fa_hart _ 11 42 (by decide) rfl w) _) (fun a hA => ?_)
    refine W_stU hA rfl rfl rfl rfl rfl HH (by decide) (by decide) (fun w25 hT HN => ?_)
    replace HB := HB.trans (hT.bel _ gHH)
    replace LL := hT.lines LL (by omega)
    replace RR := hT.hart RR (by omega)
    replace HH := HN
    clear hT HN
    refine W_nil ?_
    refine blk_nrm ?_
    refine then_nrm ?_
    show Code.wp Try.prog _ _ _ _
    refine wp_seq ?_
    refine wp_region_list ?_
    refine W_val hA rfl 324 rfl (by decide) _ _ (R_row hA rfl rfl HH Try.underlying25 (size_hart.trans (by rw [varr_size]))) (fun a hA => ?_)
    refine W_cpH hA rfl rfl rfl rfl rfl RR (fun w26 hT HN => ?_)
    replace HB := HB.trans (hT.bel _ gRR)
    replace HH := hT.hart HH (by omega)
    replace LL := hT.lines LL (by omega)
    replace RR := HN
    clear hT HN
    refine W_nil ?_
    refine then_nrm ?_
    show Code.wp Try.prog _ _ _ _
    refine wp_ret ?_
    refine ret_hart (j := 8) (by kernel_rfl) hA rfl RR ?_
    refine ⟨congrArg (fun s : HS => Ending.returned (hartV s)) ?_, HB⟩
    unfold writeZ
    rw [hm]
    have e := eq_of_beq c9
    subst e
    rfl
  refine W_test hA rfl (by decide) (by decide) rfl rfl (fun c10 a hA => ?_) (fun c10 a hA => ?_)
  · skip
    refine wp_seq ?_
    refine wp_region_list ?_
    refine W_val hA rfl 76 rfl (by decide) _ _ (R_mov hA rfl rfl _) (fun a hA => ?_)
    refine W_call1 hA (by decide) (fun _ _ => by kernel_rfl) rfl (dmode_any _ hv.1 _) (fun w27 hw a hA => ?_)
    subst hw
    refine W_nil ?_
    refine then_nrm ?_
    show Code.wp Try.prog _ _ _ _
    refine wp_cond_split (hA.ev (x := .tmp 77) rfl) (fun c11 => ?_) (fun c11 => ?_)
    · skip
      refine wp_region_list ?_
      refine W_val hA rfl 78 rfl (by decide) _ _ (R_mov hA rfl rfl _) (fun a hA => ?_)
      refine W_val hA rfl 79 rfl (by decide) _ _ (R_fa hA rfl rfl (fun w => fa_hart _ 26 57 (by decide) rfl w) _) (fun a hA => ?_)
      refine W_stU hA rfl rfl rfl rfl rfl HH (by decide) (by decide) (fun w28 hT HN => ?_)
      replace HB := HB.trans (hT.bel _ gHH)
      replace LL := hT.lines LL (by omega)
      replace RR := hT.hart RR (by omega)
      replace HH := HN
      clear hT HN
      refine W_nil ?_
      refine blk_nrm ?_
      refine then_nrm ?_
      show Code.wp Try.prog _ _ _ _
      refine wp_seq ?_
      refine wp_region_list ?_
      refine W_val hA rfl 324 rfl (by decide) _ _ (R_row hA rfl rfl HH Try.underlying25 (size_hart.trans (by rw [varr_size]))) (fun a hA => ?_)
      refine W_cpH hA rfl rfl rfl rfl rfl RR (fun w29 hT HN => ?_)
      replace HB := HB.trans (hT.bel _ gRR)
      replace HH := hT.hart HH (by omega)
      replace LL := hT.lines LL (by omega)
      replace RR := HN
      clear hT HN
      refine W_nil ?_
      refine then_nrm ?_
      show Code.wp Try.prog _ _ _ _
      refine wp_ret ?_
      refine ret_hart (j := 8) (by kernel_rfl) hA rfl RR ?_
      refine ⟨congrArg (fun s : HS => Ending.returned (hartV s)) ?_, HB⟩
      unfold writeZ
      rw [hm]
      have e := eq_of_beq c10
      subst e
      have hq : noTabB v = false := by simpa using c11
      refine Eq.trans ?_ (writeM_fld t v 20 (by omega)).symm
      refine congrArg (t.put 57) ?_
      refine Eq.trans ?_ (putZ_tab 20 (by decide) (t.n 57) v hq).symm
      exact (merge_all _ hv).symm
    refine wp_skip ?_
    refine blk_nrm ?_
    refine then_nrm ?_
    show Code.wp Try.prog _ _ _ _
    refine wp_seq ?_
    refine wp_region_list ?_
    refine W_val hA rfl 324 rfl (by decide) _ _ (R_row hA rfl rfl HH Try.underlying25 (size_hart.trans (by rw [varr_size]))) (fun a hA => ?_)
    refine W_cpH hA rfl rfl rfl rfl rfl RR (fun w30 hT HN => ?_)
    replace HB := HB.trans (hT.bel _ gRR)
    replace HH := hT.hart HH (by omega)
    replace LL := hT.lines LL (by omega)
    replace RR := HN
    clear hT HN
    refine W_nil ?_
    refine then_nrm ?_
    show Code.wp Try.prog _ _ _ _
    refine wp_ret ?_
    refine ret_hart (j := 8) (by kernel_rfl) hA rfl RR ?_
    refine ⟨congrArg (fun s : HS => Ending.returned (hartV s)) ?_, HB⟩
    unfold writeZ
    rw [hm]
    have e := eq_of_beq c10
    subst e
    have hq : noTabB v = true := by simpa using c11
    refine Eq.trans ?_ (writeM_fld t v 20 (by omega)).symm
    rw [putZ_no 20 (by decide) _ v hq, HS.put_self]
  refine W_test hA rfl (by decide) (by decide) rfl rfl (fun c12 a hA => ?_) (fun c12 a hA => ?_)
  · skip
    refine wp_region_list ?_
    refine W_val hA rfl 82 rfl (by decide) _ _ (R_fa hA rfl rfl (fun w => fa_hart _ 37 68 (by decide) rfl w) _) (fun a hA => ?_)
    refine W_val hA rfl 83 rfl (by decide) _ _ (R_ld hA rfl rfl ag_u64 (HH.u 68 (by decide) (by decide))) (fun a hA => ?_)
    refine W_val hA rfl 84 rfl (by decide) _ _ (R_mov hA rfl rfl _) (fun a hA => ?_)
    refine W_call3 hA (by decide) (fun _ _ => by kernel_rfl) rfl rfl rfl (dput_any _ _ _ (by first | exact ok.n _ | exact HOk.n HO _) (by first | exact and_in _ _ | (unfold In64; decide) | exact In64.lit (by decide)) (by first | exact hv | exact wrap_in _) _) (fun w31 hw a hA => ?_)
    subst hw
    refine W_val hA rfl 86 rfl (by decide) _ _ (R_fa hA rfl rfl (fun w => fa_hart _ 37 68 (by decide) rfl w) _) (fun a hA => ?_)
    refine W_stU hA rfl rfl rfl rfl rfl HH (by decide) (by decide) (fun w32 hT HN => ?_)
    replace HB := HB.trans (hT.bel _ gHH)
    replace LL := hT.lines LL (by omega)
    replace RR := hT.hart RR (by omega)
    replace HH := HN
    clear hT HN
    refine W_nil ?_
    refine blk_nrm ?_
    refine then_nrm ?_
    show Code.wp Try.prog _ _ _ _
    refine wp_seq ?_
    refine wp_region_list ?_
    refine W_val hA rfl 324 rfl (by decide) _ _ (R_row hA rfl rfl HH Try.underlying25 (size_hart.trans (by rw [varr_size]))) (fun a hA => ?_)
    refine W_cpH hA rfl rfl rfl rfl rfl RR (fun w33 hT HN => ?_)
    replace HB := HB.trans (hT.bel _ gRR)
    replace HH := hT.hart HH (by omega)
    replace LL := hT.lines LL (by omega)
    replace RR := HN
    clear hT HN
    refine W_nil ?_
    refine then_nrm ?_
    show Code.wp Try.prog _ _ _ _
    refine wp_ret ?_
    refine ret_hart (j := 8) (by kernel_rfl) hA rfl RR ?_
    refine ⟨congrArg (fun s : HS => Ending.returned (hartV s)) ?_, HB⟩
    unfold writeZ
    rw [hm]
    have e := eq_of_beq c12
    subst e
    refine Eq.trans ?_ (writeM_fld t v 31 (by omega)).symm
    refine congrArg (t.put 68) ?_
    refine Eq.trans ?_ (putZ_oth 31 (by decide) (t.n 68) v).symm
    rfl
  refine W_test hA rfl (by decide) (by decide) rfl rfl (fun c13 a hA => ?_) (fun c13 a hA => ?_)
  · skip
    refine wp_region_list ?_
    refine W_val hA rfl 89 rfl (by decide) _ _ (R_fa hA rfl rfl (fun w => fa_hart _ 10 41 (by decide) rfl w) _) (fun a hA => ?_)
    refine W_val hA rfl 90 rfl (by decide) _ _ (R_ld hA rfl rfl ag_u64 (HH.u 41 (by decide) (by decide))) (fun a hA => ?_)
    refine W_val hA rfl 91 rfl (by decide) _ _ (R_fa hA rfl rfl (fun w => fa_hart _ 29 60 (by decide) rfl w) _) (fun a hA => ?_)
    refine W_val hA rfl 92 rfl (by decide) _ _ (R_ld hA rfl rfl ag_u64 (HH.u 60 (by decide) (by decide))) (fun a hA => ?_)
    refine W_val hA rfl 93 rfl (by decide) _ _ (R_and hA rfl rfl rfl _) (fun a hA => ?_)
    refine W_val hA rfl 94 rfl (by decide) _ _ (R_mov hA rfl rfl _) (fun a hA => ?_)
    refine W_val hA rfl 95 rfl (by decide) _ _ (R_mul hA rfl rfl rfl _) (fun a hA => ?_)
    refine W_call3 hA (by decide) (fun _ _ => by kernel_rfl) rfl rfl rfl (dput_any _ _ _ (by first | exact ok.n _ | exact HOk.n HO _) (by first | exact and_in _ _ | (unfold In64; decide) | exact In64.lit (by decide)) (by first | exact hv | exact wrap_in _) _) (fun w34 hw a hA => ?_)
    subst hw
    refine W_val hA rfl 97 rfl (by decide) _ _ (R_fa hA rfl rfl (fun w => fa_hart _ 10 41 (by decide) rfl w) _) (fun a hA => ?_)
    refine W_stU hA rfl rfl rfl rfl rfl HH (by decide) (by decide) (fun w35 hT HN => ?_)
    replace HB := HB.trans (hT.bel _ gHH)
    replace LL := hT.lines LL (by omega)
    replace RR := hT.hart RR (by omega)
    replace HH := HN
    clear hT HN
    refine W_nil ?_
    refine blk_nrm ?_
    refine then_nrm ?_
    show Code.wp Try.prog _ _ _ _
    refine wp_seq ?_
    refine wp_region_list ?_
    refine W_val hA rfl 324 rfl (by decide) _ _ (R_row hA rfl rfl HH Try.underlying25 (size_hart.trans (by rw [varr_size]))) (fun a hA => ?_)
    refine W_cpH hA rfl rfl rfl rfl rfl RR (fun w36 hT HN => ?_)
    replace HB := HB.trans (hT.bel _ gRR)
    replace HH := hT.hart HH (by omega)
    replace LL := hT.lines LL (by omega)
    replace RR := HN
    clear hT HN
    refine W_nil ?_
    refine then_nrm ?_
    show Code.wp Try.prog _ _ _ _
    refine wp_ret ?_
    refine ret_hart (j := 8) (by kernel_rfl) hA rfl RR ?_
    refine ⟨congrArg (fun s : HS => Ending.returned (hartV s)) ?_, HB⟩
    unfold writeZ
    rw [hm]
    have e := eq_of_beq c13
    subst e
    exact congrArg (fun q => t.put 41 (mergeZ (t.n 41) (bits .and .u64 1092 (t.n 60)) (IntKind.u64.wrap q))) (Int.mul_comm 2 v)
  refine W_test hA rfl (by decide) (by decide) rfl rfl (fun c14 a hA => ?_) (fun c14 a hA => ?_)
  · skip
    refine still_tail 6 (by kernel_rfl) (fun w4 hw => ?_)
    replace HB := HB.trans (hw.mono HB.size)
    replace HH := HH.below hw
    replace LL := LL.below hw
    replace RR := RR.below hw
    clear hw
    refine S_val hA rfl 100 rfl (by decide) _ (R_fa hA rfl rfl (fun w => fa_hart _ 38 69 (by decide) rfl w) _) (fun a hA => ?_)
    refine S_val hA rfl 101 rfl (by decide) _ (R_ld hA rfl rfl ag_u64 (HH.u 69 (by decide) (by decide))) (fun a hA => ?_)
    refine S_call hA (by decide) (fun _ _ => by kernel_rfl) (args1 hA rfl) (dbut_any _ 18446744073709551613 (by kernel_rfl) _) (fun a hA => ?_)
    refine S_val hA rfl 103 rfl (by decide) _ (R_mov hA rfl rfl _) (fun a hA => ?_)
    refine S_call hA (by decide) (fun _ _ => by kernel_rfl) (args3 hA rfl rfl rfl) (dput_any _ _ _ (by first | exact ok.n _ | exact HOk.n HO _) (by first | exact and_in _ _ | (unfold In64; decide) | exact In64.lit (by decide)) (by first | exact hv | exact wrap_in _) _) (fun a hA => ?_)
    refine S_val hA rfl 105 rfl (by decide) _ (R_fa hA rfl rfl (fun w => fa_hart _ 38 69 (by decide) rfl w) _) (fun a hA => ?_)
    refine still_nil ?_
    refine W_stU hA rfl rfl rfl rfl rfl HH (by decide) (by decide) (fun w37 hT HN => ?_)
    replace HB := HB.trans (hT.bel _ gHH)
    replace LL := hT.lines LL (by omega)
    replace RR := hT.hart RR (by omega)
    replace HH := HN
    clear hT HN
    refine W_nil ?_
    refine blk_nrm ?_
    refine then_nrm ?_
    show Code.wp Try.prog _ _ _ _
    refine wp_seq ?_
    refine wp_region_list ?_
    refine W_val hA rfl 324 rfl (by decide) _ _ (R_row hA rfl rfl HH Try.underlying25 (size_hart.trans (by rw [varr_size]))) (fun a hA => ?_)
    refine W_cpH hA rfl rfl rfl rfl rfl RR (fun w38 hT HN => ?_)
    replace HB := HB.trans (hT.bel _ gRR)
    replace HH := hT.hart HH (by omega)
    replace LL := hT.lines LL (by omega)
    replace RR := HN
    clear hT HN
    refine W_nil ?_
    refine then_nrm ?_
    show Code.wp Try.prog _ _ _ _
    refine wp_ret ?_
    refine ret_hart (j := 8) (by kernel_rfl) hA rfl RR ?_
    refine ⟨congrArg (fun s : HS => Ending.returned (hartV s)) ?_, HB⟩
    unfold writeZ
    rw [hm]
    have e := eq_of_beq c14
    subst e
    refine Eq.trans ?_ (writeM_fld t v 32 (by omega)).symm
    refine congrArg (t.put 69) ?_
    refine Eq.trans ?_ (putZ_oth 32 (by decide) (t.n 69) v).symm
    rfl
  refine W_test hA rfl (by decide) (by decide) rfl rfl (fun c15 a hA => ?_) (fun c15 a hA => ?_)
  · skip
    refine wp_region_list ?_
    refine W_val hA rfl 108 rfl (by decide) _ _ (R_mov hA rfl rfl _) (fun a hA => ?_)
    refine W_val hA rfl 109 rfl (by decide) _ _ (R_fa hA rfl rfl (fun w => fa_hart _ 39 70 (by decide) rfl w) _) (fun a hA => ?_)
    refine W_stU hA rfl rfl rfl rfl rfl HH (by decide) (by decide) (fun w39 hT HN => ?_)
    replace HB := HB.trans (hT.bel _ gHH)
    replace LL := hT.lines LL (by omega)
    replace RR := hT.hart RR (by omega)
    replace HH := HN
    clear hT HN
    refine W_nil ?_
    refine blk_nrm ?_
    refine then_nrm ?_
    show Code.wp Try.prog _ _ _ _
    refine wp_seq ?_
    refine wp_region_list ?_
    refine W_val hA rfl 324 rfl (by decide) _ _ (R_row hA rfl rfl HH Try.underlying25 (size_hart.trans (by rw [varr_size]))) (fun a hA => ?_)
    refine W_cpH hA rfl rfl rfl rfl rfl RR (fun w40 hT HN => ?_)
    replace HB := HB.trans (hT.bel _ gRR)
    replace HH := hT.hart HH (by omega)
    replace LL := hT.lines LL (by omega)
    replace RR := HN
    clear hT HN
    refine W_nil ?_
    refine then_nrm ?_
    show Code.wp Try.prog _ _ _ _
    refine wp_ret ?_
    refine ret_hart (j := 8) (by kernel_rfl) hA rfl RR ?_
    refine ⟨congrArg (fun s : HS => Ending.returned (hartV s)) ?_, HB⟩
    unfold writeZ
    rw [hm]
    have e := eq_of_beq c15
    subst e
    refine Eq.trans ?_ (writeM_fld t v 33 (by omega)).symm
    refine congrArg (t.put 70) ?_
    refine Eq.trans ?_ (putZ_oth 33 (by decide) (t.n 70) v).symm
    exact (merge_all _ hv).symm
  refine W_test hA rfl (by decide) (by decide) rfl rfl (fun c16 a hA => ?_) (fun c16 a hA => ?_)
  · skip
    refine still_tail 6 (by kernel_rfl) (fun w4 hw => ?_)
    replace HB := HB.trans (hw.mono HB.size)
    replace HH := HH.below hw
    replace LL := LL.below hw
    replace RR := RR.below hw
    clear hw
    refine S_val hA rfl 112 rfl (by decide) _ (R_fa hA rfl rfl (fun w => fa_hart _ 40 71 (by decide) rfl w) _) (fun a hA => ?_)
    refine S_val hA rfl 113 rfl (by decide) _ (R_ld hA rfl rfl ag_u64 (HH.u 71 (by decide) (by decide))) (fun a hA => ?_)
    refine S_call hA (by decide) (fun _ _ => by kernel_rfl) (args1 hA rfl) (dbut_any _ 18446744073709551612 (by kernel_rfl) _) (fun a hA => ?_)
    refine S_val hA rfl 115 rfl (by decide) _ (R_mov hA rfl rfl _) (fun a hA => ?_)
    refine S_call hA (by decide) (fun _ _ => by kernel_rfl) (args3 hA rfl rfl rfl) (dput_any _ _ _ (by first | exact ok.n _ | exact HOk.n HO _) (by first | exact and_in _ _ | (unfold In64; decide) | exact In64.lit (by decide)) (by first | exact hv | exact wrap_in _) _) (fun a hA => ?_)
    refine S_val hA rfl 117 rfl (by decide) _ (R_fa hA rfl rfl (fun w => fa_hart _ 40 71 (by decide) rfl w) _) (fun a hA => ?_)
    refine still_nil ?_
    refine W_stU hA rfl rfl rfl rfl rfl HH (by decide) (by decide) (fun w41 hT HN => ?_)
    replace HB := HB.trans (hT.bel _ gHH)
    replace LL := hT.lines LL (by omega)
    replace RR := hT.hart RR (by omega)
    replace HH := HN
    clear hT HN
    refine W_nil ?_
    refine blk_nrm ?_
    refine then_nrm ?_
    show Code.wp Try.prog _ _ _ _
    refine wp_seq ?_
    refine wp_region_list ?_
    refine W_val hA rfl 324 rfl (by decide) _ _ (R_row hA rfl rfl HH Try.underlying25 (size_hart.trans (by rw [varr_size]))) (fun a hA => ?_)
    refine W_cpH hA rfl rfl rfl rfl rfl RR (fun w42 hT HN => ?_)
    replace HB := HB.trans (hT.bel _ gRR)
    replace HH := hT.hart HH (by omega)
    replace LL := hT.lines LL (by omega)
    replace RR := HN
    clear hT HN
    refine W_nil ?_
    refine then_nrm ?_
    show Code.wp Try.prog _ _ _ _
    refine wp_ret ?_
    refine ret_hart (j := 8) (by kernel_rfl) hA rfl RR ?_
    refine ⟨congrArg (fun s : HS => Ending.returned (hartV s)) ?_, HB⟩
    unfold writeZ
    rw [hm]
    have e := eq_of_beq c16
    subst e
    refine Eq.trans ?_ (writeM_fld t v 34 (by omega)).symm
    refine congrArg (t.put 71) ?_
    refine Eq.trans ?_ (putZ_oth 34 (by decide) (t.n 71) v).symm
    rfl
  refine W_test hA rfl (by decide) (by decide) rfl rfl (fun c17 a hA => ?_) (fun c17 a hA => ?_)
  · skip
    refine wp_region_list ?_
    refine W_val hA rfl 120 rfl (by decide) _ _ (R_mov hA rfl rfl _) (fun a hA => ?_)
    refine W_val hA rfl 121 rfl (by decide) _ _ (R_fa hA rfl rfl (fun w => fa_hart _ 41 72 (by decide) rfl w) _) (fun a hA => ?_)
    refine W_stU hA rfl rfl rfl rfl rfl HH (by decide) (by decide) (fun w43 hT HN => ?_)
    replace HB := HB.trans (hT.bel _ gHH)
    replace LL := hT.lines LL (by omega)
    replace RR := hT.hart RR (by omega)
    replace HH := HN
    clear hT HN
    refine W_nil ?_
    refine blk_nrm ?_
    refine then_nrm ?_
    show Code.wp Try.prog _ _ _ _
    refine wp_seq ?_
    refine wp_region_list ?_
    refine W_val hA rfl 324 rfl (by decide) _ _ (R_row hA rfl rfl HH Try.underlying25 (size_hart.trans (by rw [varr_size]))) (fun a hA => ?_)
    refine W_cpH hA rfl rfl rfl rfl rfl RR (fun w44 hT HN => ?_)
    replace HB := HB.trans (hT.bel _ gRR)
    replace HH := hT.hart HH (by omega)
    replace LL := hT.lines LL (by omega)
    replace RR := HN
    clear hT HN
    refine W_nil ?_
    refine then_nrm ?_
    show Code.wp Try.prog _ _ _ _
    refine wp_ret ?_
    refine ret_hart (j := 8) (by kernel_rfl) hA rfl RR ?_
    refine ⟨congrArg (fun s : HS => Ending.returned (hartV s)) ?_, HB⟩
    unfold writeZ
    rw [hm]
    have e := eq_of_beq c17
    subst e
    refine Eq.trans ?_ (writeM_fld t v 35 (by omega)).symm
    refine congrArg (t.put 72) ?_
    refine Eq.trans ?_ (putZ_oth 35 (by decide) (t.n 72) v).symm
    exact (merge_all _ hv).symm
  refine W_test hA rfl (by decide) (by decide) rfl rfl (fun c18 a hA => ?_) (fun c18 a hA => ?_)
  · skip
    refine wp_region_list ?_
    refine W_val hA rfl 124 rfl (by decide) _ _ (R_mov hA rfl rfl _) (fun a hA => ?_)
    refine W_val hA rfl 125 rfl (by decide) _ _ (R_fa hA rfl rfl (fun w => fa_hart _ 42 73 (by decide) rfl w) _) (fun a hA => ?_)
    refine W_stU hA rfl rfl rfl rfl rfl HH (by decide) (by decide) (fun w45 hT HN => ?_)
    replace HB := HB.trans (hT.bel _ gHH)
    replace LL := hT.lines LL (by omega)
    replace RR := hT.hart RR (by omega)
    replace HH := HN
    clear hT HN
    refine W_nil ?_
    refine blk_nrm ?_
    refine then_nrm ?_
    show Code.wp Try.prog _ _ _ _
    refine wp_seq ?_
    refine wp_region_list ?_
    refine W_val hA rfl 324 rfl (by decide) _ _ (R_row hA rfl rfl HH Try.underlying25 (size_hart.trans (by rw [varr_size]))) (fun a hA => ?_)
    refine W_cpH hA rfl rfl rfl rfl rfl RR (fun w46 hT HN => ?_)
    replace HB := HB.trans (hT.bel _ gRR)
    replace HH := hT.hart HH (by omega)
    replace LL := hT.lines LL (by omega)
    replace RR := HN
    clear hT HN
    refine W_nil ?_
    refine then_nrm ?_
    show Code.wp Try.prog _ _ _ _
    refine wp_ret ?_
    refine ret_hart (j := 8) (by kernel_rfl) hA rfl RR ?_
    refine ⟨congrArg (fun s : HS => Ending.returned (hartV s)) ?_, HB⟩
    unfold writeZ
    rw [hm]
    have e := eq_of_beq c18
    subst e
    refine Eq.trans ?_ (writeM_fld t v 36 (by omega)).symm
    refine congrArg (t.put 73) ?_
    refine Eq.trans ?_ (putZ_oth 36 (by decide) (t.n 73) v).symm
    exact (merge_all _ hv).symm
  refine W_test hA rfl (by decide) (by decide) rfl rfl (fun c19 a hA => ?_) (fun c19 a hA => ?_)
  · skip
    refine wp_region_list ?_
    refine W_val hA rfl 128 rfl (by decide) _ _ (R_fa hA rfl rfl (fun w => fa_hart _ 30 61 (by decide) rfl w) _) (fun a hA => ?_)
    refine W_val hA rfl 129 rfl (by decide) _ _ (R_ld hA rfl rfl ag_u64 (HH.u 61 (by decide) (by decide))) (fun a hA => ?_)
    refine W_val hA rfl 130 rfl (by decide) _ _ (R_fa hA rfl rfl (fun w => fa_hart _ 29 60 (by decide) rfl w) _) (fun a hA => ?_)
    refine W_val hA rfl 131 rfl (by decide) _ _ (R_ld hA rfl rfl ag_u64 (HH.u 60 (by decide) (by decide))) (fun a hA => ?_)
    refine W_val hA rfl 132 rfl (by decide) _ _ (R_and hA rfl rfl rfl _) (fun a hA => ?_)
    refine W_val hA rfl 133 rfl (by decide) _ _ (R_mov hA rfl rfl _) (fun a hA => ?_)
    refine W_val hA rfl 134 rfl (by decide) _ _ (R_mul hA rfl rfl rfl _) (fun a hA => ?_)
    refine W_call3 hA (by decide) (fun _ _ => by kernel_rfl) rfl rfl rfl (dput_any _ _ _ (by first | exact ok.n _ | exact HOk.n HO _) (by first | exact and_in _ _ | (unfold In64; decide) | exact In64.lit (by decide)) (by first | exact hv | exact wrap_in _) _) (fun w47 hw a hA => ?_)
    subst hw
    refine W_val hA rfl 136 rfl (by decide) _ _ (R_fa hA rfl rfl (fun w => fa_hart _ 30 61 (by decide) rfl w) _) (fun a hA => ?_)
    refine W_stU hA rfl rfl rfl rfl rfl HH (by decide) (by decide) (fun w48 hT HN => ?_)
    replace HB := HB.trans (hT.bel _ gHH)
    replace LL := hT.lines LL (by omega)
    replace RR := hT.hart RR (by omega)
    replace HH := HN
    clear hT HN
    refine W_nil ?_
    refine blk_nrm ?_
    refine then_nrm ?_
    show Code.wp Try.prog _ _ _ _
    refine wp_seq ?_
    refine wp_region_list ?_
    refine W_val hA rfl 324 rfl (by decide) _ _ (R_row hA rfl rfl HH Try.underlying25 (size_hart.trans (by rw [varr_size]))) (fun a hA => ?_)
    refine W_cpH hA rfl rfl rfl rfl rfl RR (fun w49 hT HN => ?_)
    replace HB := HB.trans (hT.bel _ gRR)
    replace HH := hT.hart HH (by omega)
    replace LL := hT.lines LL (by omega)
    replace RR := HN
    clear hT HN
    refine W_nil ?_
    refine then_nrm ?_
    show Code.wp Try.prog _ _ _ _
    refine wp_ret ?_
    refine ret_hart (j := 8) (by kernel_rfl) hA rfl RR ?_
    refine ⟨congrArg (fun s : HS => Ending.returned (hartV s)) ?_, HB⟩
    unfold writeZ
    rw [hm]
    have e := eq_of_beq c19
    subst e
    exact congrArg (fun q => t.put 61 (mergeZ (t.n 61) (bits .and .u64 4 (t.n 60)) (IntKind.u64.wrap q))) (Int.mul_comm 2 v)
  refine W_test hA rfl (by decide) (by decide) rfl rfl (fun c20 a hA => ?_) (fun c20 a hA => ?_)
  · skip
    refine wp_seq ?_
    refine wp_region_list ?_
    refine W_val hA rfl 139 rfl (by decide) _ _ (R_mov hA rfl rfl _) (fun a hA => ?_)
    refine W_call1 hA (by decide) (fun _ _ => by kernel_rfl) rfl (dmode_any _ hv.1 _) (fun w50 hw a hA => ?_)
    subst hw
    refine W_nil ?_
    refine then_nrm ?_
    show Code.wp Try.prog _ _ _ _
    refine wp_cond_split (hA.ev (x := .tmp 140) rfl) (fun c21 => ?_) (fun c21 => ?_)
    · skip
      refine wp_region_list ?_
      refine W_val hA rfl 141 rfl (by decide) _ _ (R_mov hA rfl rfl _) (fun a hA => ?_)
      refine W_val hA rfl 142 rfl (by decide) _ _ (R_fa hA rfl rfl (fun w => fa_hart _ 43 74 (by decide) rfl w) _) (fun a hA => ?_)
      refine W_stU hA rfl rfl rfl rfl rfl HH (by decide) (by decide) (fun w51 hT HN => ?_)
      replace HB := HB.trans (hT.bel _ gHH)
      replace LL := hT.lines LL (by omega)
      replace RR := hT.hart RR (by omega)
      replace HH := HN
      clear hT HN
      refine W_nil ?_
      refine blk_nrm ?_
      refine then_nrm ?_
      show Code.wp Try.prog _ _ _ _
      refine wp_seq ?_
      refine wp_region_list ?_
      refine W_val hA rfl 324 rfl (by decide) _ _ (R_row hA rfl rfl HH Try.underlying25 (size_hart.trans (by rw [varr_size]))) (fun a hA => ?_)
      refine W_cpH hA rfl rfl rfl rfl rfl RR (fun w52 hT HN => ?_)
      replace HB := HB.trans (hT.bel _ gRR)
      replace HH := hT.hart HH (by omega)
      replace LL := hT.lines LL (by omega)
      replace RR := HN
      clear hT HN
      refine W_nil ?_
      refine then_nrm ?_
      show Code.wp Try.prog _ _ _ _
      refine wp_ret ?_
      refine ret_hart (j := 8) (by kernel_rfl) hA rfl RR ?_
      refine ⟨congrArg (fun s : HS => Ending.returned (hartV s)) ?_, HB⟩
      unfold writeZ
      rw [hm]
      have e := eq_of_beq c20
      subst e
      have hq : noTabB v = false := by simpa using c21
      refine Eq.trans ?_ (writeM_fld t v 37 (by omega)).symm
      refine congrArg (t.put 74) ?_
      refine Eq.trans ?_ (putZ_tab 37 (by decide) (t.n 74) v hq).symm
      exact (merge_all _ hv).symm
    refine wp_skip ?_
    refine blk_nrm ?_
    refine then_nrm ?_
    show Code.wp Try.prog _ _ _ _
    refine wp_seq ?_
    refine wp_region_list ?_
    refine W_val hA rfl 324 rfl (by decide) _ _ (R_row hA rfl rfl HH Try.underlying25 (size_hart.trans (by rw [varr_size]))) (fun a hA => ?_)
    refine W_cpH hA rfl rfl rfl rfl rfl RR (fun w53 hT HN => ?_)
    replace HB := HB.trans (hT.bel _ gRR)
    replace HH := hT.hart HH (by omega)
    replace LL := hT.lines LL (by omega)
    replace RR := HN
    clear hT HN
    refine W_nil ?_
    refine then_nrm ?_
    show Code.wp Try.prog _ _ _ _
    refine wp_ret ?_
    refine ret_hart (j := 8) (by kernel_rfl) hA rfl RR ?_
    refine ⟨congrArg (fun s : HS => Ending.returned (hartV s)) ?_, HB⟩
    unfold writeZ
    rw [hm]
    have e := eq_of_beq c20
    subst e
    have hq : noTabB v = true := by simpa using c21
    refine Eq.trans ?_ (writeM_fld t v 37 (by omega)).symm
    rw [putZ_no 37 (by decide) _ v hq, HS.put_self]
  refine W_test hA rfl (by decide) (by decide) rfl rfl (fun c22 a hA => ?_) (fun c22 a hA => ?_)
  · skip
    refine wp_seq ?_
    refine wp_region_list ?_
    refine W_val hA rfl 145 rfl (by decide) _ _ (R_mov hA rfl rfl _) (fun a hA => ?_)
    refine W_call2 hA (by decide) (fun _ _ => by kernel_rfl) rfl rfl (dbit_at _ 12 (by omega) _ rfl (by first | exact hv | exact ok.n _) _) (fun w54 hw a hA => ?_)
    subst hw
    refine W_val hA rfl 147 rfl (by decide) _ _ (R_mov hA rfl rfl _) (fun a hA => ?_)
    refine W_split hA 147 rfl (fun c23 hA => ?_) (fun c23 hA => ?_)
    · skip
      refine W_gval hA rfl rfl rfl 148 rfl (by decide) _ _ (R_mov hA rfl rfl _) (fun a hA => ?_)
      refine W_gcall hA rfl rfl (by decide) (fun _ _ => by kernel_rfl) (args2 hA rfl rfl) (dbit_at _ 11 (by omega) _ rfl (by first | exact hv | exact ok.n _) _) (fun w55 hw a hA => ?_)
      subst hw
      refine W_gval hA rfl rfl rfl 150 rfl (by decide) _ _ (R_not hA rfl rfl _) (fun a hA => ?_)
      refine W_val hA rfl 151 rfl (by decide) _ _ (R_pick hA rfl rfl rfl _) (fun a hA => ?_)
      refine W_nil ?_
      refine then_nrm ?_
      show Code.wp Try.prog _ _ _ _
      refine wp_cond_split (hA.ev (x := .tmp 151) rfl) (fun c24 => ?_) (fun c24 => ?_)
      · skip
        refine wp_region_list ?_
        refine W_val hA rfl 152 rfl (by decide) _ _ (R_fa hA rfl rfl (fun w => fa_hart _ 7 38 (by decide) rfl w) _) (fun a hA => ?_)
        refine W_val hA rfl 153 rfl (by decide) _ _ (R_ld hA rfl rfl ag_u64 (HH.u 38 (by decide) (by decide))) (fun a hA => ?_)
        refine W_val hA rfl 154 rfl (by decide) _ _ (R_mov hA rfl rfl _) (fun a hA => ?_)
        refine W_call3 hA (by decide) (fun _ _ => by kernel_rfl) rfl rfl rfl (dput_any _ _ _ (by first | exact ok.n _ | exact HOk.n HO _) (by first | exact and_in _ _ | (unfold In64; decide) | exact In64.lit (by decide)) (by first | exact hv | exact wrap_in _) _) (fun w56 hw a hA => ?_)
        subst hw
        refine W_val hA rfl 156 rfl (by decide) _ _ (R_fa hA rfl rfl (fun w => fa_hart _ 7 38 (by decide) rfl w) _) (fun a hA => ?_)
        refine W_stU hA rfl rfl rfl rfl rfl HH (by decide) (by decide) (fun w57 hT HN => ?_)
        replace HB := HB.trans (hT.bel _ gHH)
        replace LL := hT.lines LL (by omega)
        replace RR := hT.hart RR (by omega)
        replace HH := HN
        clear hT HN
        refine W_nil ?_
        refine blk_nrm ?_
        refine then_nrm ?_
        show Code.wp Try.prog _ _ _ _
        refine wp_seq ?_
        refine wp_region_list ?_
        refine W_val hA rfl 324 rfl (by decide) _ _ (R_row hA rfl rfl HH Try.underlying25 (size_hart.trans (by rw [varr_size]))) (fun a hA => ?_)
        refine W_cpH hA rfl rfl rfl rfl rfl RR (fun w58 hT HN => ?_)
        replace HB := HB.trans (hT.bel _ gRR)
        replace HH := hT.hart HH (by omega)
        replace LL := hT.lines LL (by omega)
        replace RR := HN
        clear hT HN
        refine W_nil ?_
        refine then_nrm ?_
        show Code.wp Try.prog _ _ _ _
        refine wp_ret ?_
        refine ret_hart (j := 8) (by kernel_rfl) hA rfl RR ?_
        refine ⟨congrArg (fun s : HS => Ending.returned (hartV s)) ?_, HB⟩
        unfold writeZ
        rw [hm]
        have e := eq_of_beq c22
        subst e
        refine Eq.trans ?_ (writeM_fld t v 0 (by omega)).symm
        refine congrArg (t.put 38) ?_
        refine Eq.trans ?_ (putZ_zero (t.n 38) v).symm
        rw [show noModeB v = true by rw [noMode_bits, c23]; simpa using c24]
        show _ = mergeZ (t.n 38) (bits .andNot .u64 (mkF 0) 6144) v
        rw [show bits .andNot .u64 (mkF 0) 6144 = 824641978794 by decide +kernel]
      refine wp_region_list ?_
      refine W_val hA rfl 157 rfl (by decide) _ _ (R_fa hA rfl rfl (fun w => fa_hart _ 7 38 (by decide) rfl w) _) (fun a hA => ?_)
      refine W_val hA rfl 158 rfl (by decide) _ _ (R_ld hA rfl rfl ag_u64 (HH.u 38 (by decide) (by decide))) (fun a hA => ?_)
      refine W_val hA rfl 159 rfl (by decide) _ _ (R_mov hA rfl rfl _) (fun a hA => ?_)
      refine W_call3 hA (by decide) (fun _ _ => by kernel_rfl) rfl rfl rfl (dput_any _ _ _ (by first | exact ok.n _ | exact HOk.n HO _) (by first | exact and_in _ _ | (unfold In64; decide) | exact In64.lit (by decide)) (by first | exact hv | exact wrap_in _) _) (fun w59 hw a hA => ?_)
      subst hw
      refine W_val hA rfl 161 rfl (by decide) _ _ (R_fa hA rfl rfl (fun w => fa_hart _ 7 38 (by decide) rfl w) _) (fun a hA => ?_)
      refine W_stU hA rfl rfl rfl rfl rfl HH (by decide) (by decide) (fun w60 hT HN => ?_)
      replace HB := HB.trans (hT.bel _ gHH)
      replace LL := hT.lines LL (by omega)
      replace RR := hT.hart RR (by omega)
      replace HH := HN
      clear hT HN
      refine W_nil ?_
      refine blk_nrm ?_
      refine then_nrm ?_
      show Code.wp Try.prog _ _ _ _
      refine wp_seq ?_
      refine wp_region_list ?_
      refine W_val hA rfl 324 rfl (by decide) _ _ (R_row hA rfl rfl HH Try.underlying25 (size_hart.trans (by rw [varr_size]))) (fun a hA => ?_)
      refine W_cpH hA rfl rfl rfl rfl rfl RR (fun w61 hT HN => ?_)
      replace HB := HB.trans (hT.bel _ gRR)
      replace HH := hT.hart HH (by omega)
      replace LL := hT.lines LL (by omega)
      replace RR := HN
      clear hT HN
      refine W_nil ?_
      refine then_nrm ?_
      show Code.wp Try.prog _ _ _ _
      refine wp_ret ?_
      refine ret_hart (j := 8) (by kernel_rfl) hA rfl RR ?_
      refine ⟨congrArg (fun s : HS => Ending.returned (hartV s)) ?_, HB⟩
      unfold writeZ
      rw [hm]
      have e := eq_of_beq c22
      subst e
      refine Eq.trans ?_ (writeM_fld t v 0 (by omega)).symm
      refine congrArg (t.put 38) ?_
      refine Eq.trans ?_ (putZ_zero (t.n 38) v).symm
      rw [show noModeB v = false by rw [noMode_bits, c23]; simpa using c24]
      rfl
    refine W_gskip hA rfl rfl rfl 148 rfl (by decide) (fun a hA => ?_)
    refine W_gskip hA rfl rfl rfl 149 rfl (by decide) (fun a hA => ?_)
    refine W_gskip hA rfl rfl rfl 150 rfl (by decide) (fun a hA => ?_)
    refine W_val hA rfl 151 rfl (by decide) _ _ (R_pick hA rfl rfl rfl _) (fun a hA => ?_)
    refine W_nil ?_
    refine then_nrm ?_
    show Code.wp Try.prog _ _ _ _
    refine wp_cond_split (hA.ev (x := .tmp 151) rfl) (fun c25 => ?_) (fun c25 => ?_)
    · skip
      refine wp_region_list ?_
      refine W_val hA rfl 152 rfl (by decide) _ _ (R_fa hA rfl rfl (fun w => fa_hart _ 7 38 (by decide) rfl w) _) (fun a hA => ?_)
      refine W_val hA rfl 153 rfl (by decide) _ _ (R_ld hA rfl rfl ag_u64 (HH.u 38 (by decide) (by decide))) (fun a hA => ?_)
      refine W_val hA rfl 154 rfl (by decide) _ _ (R_mov hA rfl rfl _) (fun a hA => ?_)
      refine W_call3 hA (by decide) (fun _ _ => by kernel_rfl) rfl rfl rfl (dput_any _ _ _ (by first | exact ok.n _ | exact HOk.n HO _) (by first | exact and_in _ _ | (unfold In64; decide) | exact In64.lit (by decide)) (by first | exact hv | exact wrap_in _) _) (fun w62 hw a hA => ?_)
      subst hw
      refine W_val hA rfl 156 rfl (by decide) _ _ (R_fa hA rfl rfl (fun w => fa_hart _ 7 38 (by decide) rfl w) _) (fun a hA => ?_)
      refine W_stU hA rfl rfl rfl rfl rfl HH (by decide) (by decide) (fun w63 hT HN => ?_)
      replace HB := HB.trans (hT.bel _ gHH)
      replace LL := hT.lines LL (by omega)
      replace RR := hT.hart RR (by omega)
      replace HH := HN
      clear hT HN
      refine W_nil ?_
      refine blk_nrm ?_
      refine then_nrm ?_
      show Code.wp Try.prog _ _ _ _
      refine wp_seq ?_
      refine wp_region_list ?_
      refine W_val hA rfl 324 rfl (by decide) _ _ (R_row hA rfl rfl HH Try.underlying25 (size_hart.trans (by rw [varr_size]))) (fun a hA => ?_)
      refine W_cpH hA rfl rfl rfl rfl rfl RR (fun w64 hT HN => ?_)
      replace HB := HB.trans (hT.bel _ gRR)
      replace HH := hT.hart HH (by omega)
      replace LL := hT.lines LL (by omega)
      replace RR := HN
      clear hT HN
      refine W_nil ?_
      refine then_nrm ?_
      show Code.wp Try.prog _ _ _ _
      refine wp_ret ?_
      cases c25
    refine wp_region_list ?_
    refine W_val hA rfl 157 rfl (by decide) _ _ (R_fa hA rfl rfl (fun w => fa_hart _ 7 38 (by decide) rfl w) _) (fun a hA => ?_)
    refine W_val hA rfl 158 rfl (by decide) _ _ (R_ld hA rfl rfl ag_u64 (HH.u 38 (by decide) (by decide))) (fun a hA => ?_)
    refine W_val hA rfl 159 rfl (by decide) _ _ (R_mov hA rfl rfl _) (fun a hA => ?_)
    refine W_call3 hA (by decide) (fun _ _ => by kernel_rfl) rfl rfl rfl (dput_any _ _ _ (by first | exact ok.n _ | exact HOk.n HO _) (by first | exact and_in _ _ | (unfold In64; decide) | exact In64.lit (by decide)) (by first | exact hv | exact wrap_in _) _) (fun w65 hw a hA => ?_)
    subst hw
    refine W_val hA rfl 161 rfl (by decide) _ _ (R_fa hA rfl rfl (fun w => fa_hart _ 7 38 (by decide) rfl w) _) (fun a hA => ?_)
    refine W_stU hA rfl rfl rfl rfl rfl HH (by decide) (by decide) (fun w66 hT HN => ?_)
    replace HB := HB.trans (hT.bel _ gHH)
    replace LL := hT.lines LL (by omega)
    replace RR := hT.hart RR (by omega)
    replace HH := HN
    clear hT HN
    refine W_nil ?_
    refine blk_nrm ?_
    refine then_nrm ?_
    show Code.wp Try.prog _ _ _ _
    refine wp_seq ?_
    refine wp_region_list ?_
    refine W_val hA rfl 324 rfl (by decide) _ _ (R_row hA rfl rfl HH Try.underlying25 (size_hart.trans (by rw [varr_size]))) (fun a hA => ?_)
    refine W_cpH hA rfl rfl rfl rfl rfl RR (fun w67 hT HN => ?_)
    replace HB := HB.trans (hT.bel _ gRR)
    replace HH := hT.hart HH (by omega)
    replace LL := hT.lines LL (by omega)
    replace RR := HN
    clear hT HN
    refine W_nil ?_
    refine then_nrm ?_
    show Code.wp Try.prog _ _ _ _
    refine wp_ret ?_
    refine ret_hart (j := 8) (by kernel_rfl) hA rfl RR ?_
    refine ⟨congrArg (fun s : HS => Ending.returned (hartV s)) ?_, HB⟩
    unfold writeZ
    rw [hm]
    have e := eq_of_beq c22
    subst e
    refine Eq.trans ?_ (writeM_fld t v 0 (by omega)).symm
    refine congrArg (t.put 38) ?_
    refine Eq.trans ?_ (putZ_zero (t.n 38) v).symm
    rw [show noModeB v = false by rw [noMode_bits, c23]; rfl]
    rfl
  refine W_test hA rfl (by decide) (by decide) rfl rfl (fun c26 a hA => ?_) (fun c26 a hA => ?_)
  · skip
    refine wp_region_list ?_
    refine W_val hA rfl 164 rfl (by decide) _ _ (R_fa hA rfl rfl (fun w => fa_hart _ 8 39 (by decide) rfl w) _) (fun a hA => ?_)
    refine W_val hA rfl 165 rfl (by decide) _ _ (R_ld hA rfl rfl ag_u64 (HH.u 39 (by decide) (by decide))) (fun a hA => ?_)
    refine W_val hA rfl 166 rfl (by decide) _ _ (R_mov hA rfl rfl _) (fun a hA => ?_)
    refine W_call3 hA (by decide) (fun _ _ => by kernel_rfl) rfl rfl rfl (dput_any _ _ _ (by first | exact ok.n _ | exact HOk.n HO _) (by first | exact and_in _ _ | (unfold In64; decide) | exact In64.lit (by decide)) (by first | exact hv | exact wrap_in _) _) (fun w68 hw a hA => ?_)
    subst hw
    refine W_val hA rfl 168 rfl (by decide) _ _ (R_fa hA rfl rfl (fun w => fa_hart _ 8 39 (by decide) rfl w) _) (fun a hA => ?_)
    refine W_stU hA rfl rfl rfl rfl rfl HH (by decide) (by decide) (fun w69 hT HN => ?_)
    replace HB := HB.trans (hT.bel _ gHH)
    replace LL := hT.lines LL (by omega)
    replace RR := hT.hart RR (by omega)
    replace HH := HN
    clear hT HN
    refine W_nil ?_
    refine blk_nrm ?_
    refine then_nrm ?_
    show Code.wp Try.prog _ _ _ _
    refine wp_seq ?_
    refine wp_region_list ?_
    refine W_val hA rfl 324 rfl (by decide) _ _ (R_row hA rfl rfl HH Try.underlying25 (size_hart.trans (by rw [varr_size]))) (fun a hA => ?_)
    refine W_cpH hA rfl rfl rfl rfl rfl RR (fun w70 hT HN => ?_)
    replace HB := HB.trans (hT.bel _ gRR)
    replace HH := hT.hart HH (by omega)
    replace LL := hT.lines LL (by omega)
    replace RR := HN
    clear hT HN
    refine W_nil ?_
    refine then_nrm ?_
    show Code.wp Try.prog _ _ _ _
    refine wp_ret ?_
    refine ret_hart (j := 8) (by kernel_rfl) hA rfl RR ?_
    refine ⟨congrArg (fun s : HS => Ending.returned (hartV s)) ?_, HB⟩
    unfold writeZ
    rw [hm]
    have e := eq_of_beq c26
    subst e
    refine Eq.trans ?_ (writeM_fld t v 1 (by omega)).symm
    refine congrArg (t.put 39) ?_
    refine Eq.trans ?_ (putZ_oth 1 (by decide) (t.n 39) v).symm
    rfl
  refine W_test hA rfl (by decide) (by decide) rfl rfl (fun c27 a hA => ?_) (fun c27 a hA => ?_)
  · skip
    refine wp_region_list ?_
    refine W_val hA rfl 171 rfl (by decide) _ _ (R_fa hA rfl rfl (fun w => fa_hart _ 9 40 (by decide) rfl w) _) (fun a hA => ?_)
    refine W_val hA rfl 172 rfl (by decide) _ _ (R_ld hA rfl rfl ag_u64 (HH.u 40 (by decide) (by decide))) (fun a hA => ?_)
    refine W_val hA rfl 173 rfl (by decide) _ _ (R_mov hA rfl rfl _) (fun a hA => ?_)
    refine W_call3 hA (by decide) (fun _ _ => by kernel_rfl) rfl rfl rfl (dput_any _ _ _ (by first | exact ok.n _ | exact HOk.n HO _) (by first | exact and_in _ _ | (unfold In64; decide) | exact In64.lit (by decide)) (by first | exact hv | exact wrap_in _) _) (fun w71 hw a hA => ?_)
    subst hw
    refine W_val hA rfl 175 rfl (by decide) _ _ (R_fa hA rfl rfl (fun w => fa_hart _ 9 40 (by decide) rfl w) _) (fun a hA => ?_)
    refine W_stU hA rfl rfl rfl rfl rfl HH (by decide) (by decide) (fun w72 hT HN => ?_)
    replace HB := HB.trans (hT.bel _ gHH)
    replace LL := hT.lines LL (by omega)
    replace RR := hT.hart RR (by omega)
    replace HH := HN
    clear hT HN
    refine W_nil ?_
    refine blk_nrm ?_
    refine then_nrm ?_
    show Code.wp Try.prog _ _ _ _
    refine wp_seq ?_
    refine wp_region_list ?_
    refine W_val hA rfl 324 rfl (by decide) _ _ (R_row hA rfl rfl HH Try.underlying25 (size_hart.trans (by rw [varr_size]))) (fun a hA => ?_)
    refine W_cpH hA rfl rfl rfl rfl rfl RR (fun w73 hT HN => ?_)
    replace HB := HB.trans (hT.bel _ gRR)
    replace HH := hT.hart HH (by omega)
    replace LL := hT.lines LL (by omega)
    replace RR := HN
    clear hT HN
    refine W_nil ?_
    refine then_nrm ?_
    show Code.wp Try.prog _ _ _ _
    refine wp_ret ?_
    refine ret_hart (j := 8) (by kernel_rfl) hA rfl RR ?_
    refine ⟨congrArg (fun s : HS => Ending.returned (hartV s)) ?_, HB⟩
    unfold writeZ
    rw [hm]
    have e := eq_of_beq c27
    subst e
    refine Eq.trans ?_ (writeM_fld t v 2 (by omega)).symm
    refine congrArg (t.put 40) ?_
    refine Eq.trans ?_ (putZ_oth 2 (by decide) (t.n 40) v).symm
    rfl
  refine W_test hA rfl (by decide) (by decide) rfl rfl (fun c28 a hA => ?_) (fun c28 a hA => ?_)
  · skip
    refine wp_region_list ?_
    refine W_val hA rfl 178 rfl (by decide) _ _ (R_fa hA rfl rfl (fun w => fa_hart _ 10 41 (by decide) rfl w) _) (fun a hA => ?_)
    refine W_val hA rfl 179 rfl (by decide) _ _ (R_ld hA rfl rfl ag_u64 (HH.u 41 (by decide) (by decide))) (fun a hA => ?_)
    refine W_val hA rfl 180 rfl (by decide) _ _ (R_mov hA rfl rfl _) (fun a hA => ?_)
    refine W_call3 hA (by decide) (fun _ _ => by kernel_rfl) rfl rfl rfl (dput_any _ _ _ (by first | exact ok.n _ | exact HOk.n HO _) (by first | exact and_in _ _ | (unfold In64; decide) | exact In64.lit (by decide)) (by first | exact hv | exact wrap_in _) _) (fun w74 hw a hA => ?_)
    subst hw
    refine W_val hA rfl 182 rfl (by decide) _ _ (R_fa hA rfl rfl (fun w => fa_hart _ 10 41 (by decide) rfl w) _) (fun a hA => ?_)
    refine W_stU hA rfl rfl rfl rfl rfl HH (by decide) (by decide) (fun w75 hT HN => ?_)
    replace HB := HB.trans (hT.bel _ gHH)
    replace LL := hT.lines LL (by omega)
    replace RR := hT.hart RR (by omega)
    replace HH := HN
    clear hT HN
    refine W_nil ?_
    refine blk_nrm ?_
    refine then_nrm ?_
    show Code.wp Try.prog _ _ _ _
    refine wp_seq ?_
    refine wp_region_list ?_
    refine W_val hA rfl 324 rfl (by decide) _ _ (R_row hA rfl rfl HH Try.underlying25 (size_hart.trans (by rw [varr_size]))) (fun a hA => ?_)
    refine W_cpH hA rfl rfl rfl rfl rfl RR (fun w76 hT HN => ?_)
    replace HB := HB.trans (hT.bel _ gRR)
    replace HH := hT.hart HH (by omega)
    replace LL := hT.lines LL (by omega)
    replace RR := HN
    clear hT HN
    refine W_nil ?_
    refine then_nrm ?_
    show Code.wp Try.prog _ _ _ _
    refine wp_ret ?_
    refine ret_hart (j := 8) (by kernel_rfl) hA rfl RR ?_
    refine ⟨congrArg (fun s : HS => Ending.returned (hartV s)) ?_, HB⟩
    unfold writeZ
    rw [hm]
    have e := eq_of_beq c28
    subst e
    refine Eq.trans ?_ (writeM_fld t v 3 (by omega)).symm
    refine congrArg (t.put 41) ?_
    refine Eq.trans ?_ (putZ_oth 3 (by decide) (t.n 41) v).symm
    rfl
  refine W_test hA rfl (by decide) (by decide) rfl rfl (fun c29 a hA => ?_) (fun c29 a hA => ?_)
  · skip
    refine still_tail 6 (by kernel_rfl) (fun w4 hw => ?_)
    replace HB := HB.trans (hw.mono HB.size)
    replace HH := HH.below hw
    replace LL := LL.below hw
    replace RR := RR.below hw
    clear hw
    refine S_val hA rfl 185 rfl (by decide) _ (R_fa hA rfl rfl (fun w => fa_hart _ 12 43 (by decide) rfl w) _) (fun a hA => ?_)
    refine S_val hA rfl 186 rfl (by decide) _ (R_ld hA rfl rfl ag_u64 (HH.u 43 (by decide) (by decide))) (fun a hA => ?_)
    refine S_call hA (by decide) (fun _ _ => by kernel_rfl) (args1 hA rfl) (dbut_any _ 18446744073709551613 (by kernel_rfl) _) (fun a hA => ?_)
    refine S_val hA rfl 188 rfl (by decide) _ (R_mov hA rfl rfl _) (fun a hA => ?_)
    refine S_call hA (by decide) (fun _ _ => by kernel_rfl) (args3 hA rfl rfl rfl) (dput_any _ _ _ (by first | exact ok.n _ | exact HOk.n HO _) (by first | exact and_in _ _ | (unfold In64; decide) | exact In64.lit (by decide)) (by first | exact hv | exact wrap_in _) _) (fun a hA => ?_)
    refine S_val hA rfl 190 rfl (by decide) _ (R_fa hA rfl rfl (fun w => fa_hart _ 12 43 (by decide) rfl w) _) (fun a hA => ?_)
    refine still_nil ?_
    refine W_stU hA rfl rfl rfl rfl rfl HH (by decide) (by decide) (fun w77 hT HN => ?_)
    replace HB := HB.trans (hT.bel _ gHH)
    replace LL := hT.lines LL (by omega)
    replace RR := hT.hart RR (by omega)
    replace HH := HN
    clear hT HN
    refine W_nil ?_
    refine blk_nrm ?_
    refine then_nrm ?_
    show Code.wp Try.prog _ _ _ _
    refine wp_seq ?_
    refine wp_region_list ?_
    refine W_val hA rfl 324 rfl (by decide) _ _ (R_row hA rfl rfl HH Try.underlying25 (size_hart.trans (by rw [varr_size]))) (fun a hA => ?_)
    refine W_cpH hA rfl rfl rfl rfl rfl RR (fun w78 hT HN => ?_)
    replace HB := HB.trans (hT.bel _ gRR)
    replace HH := hT.hart HH (by omega)
    replace LL := hT.lines LL (by omega)
    replace RR := HN
    clear hT HN
    refine W_nil ?_
    refine then_nrm ?_
    show Code.wp Try.prog _ _ _ _
    refine wp_ret ?_
    refine ret_hart (j := 8) (by kernel_rfl) hA rfl RR ?_
    refine ⟨congrArg (fun s : HS => Ending.returned (hartV s)) ?_, HB⟩
    unfold writeZ
    rw [hm]
    have e := eq_of_beq c29
    subst e
    refine Eq.trans ?_ (writeM_fld t v 4 (by omega)).symm
    refine congrArg (t.put 43) ?_
    refine Eq.trans ?_ (putZ_oth 4 (by decide) (t.n 43) v).symm
    rfl
  refine W_test hA rfl (by decide) (by decide) rfl rfl (fun c30 a hA => ?_) (fun c30 a hA => ?_)
  · skip
    refine wp_region_list ?_
    refine W_val hA rfl 193 rfl (by decide) _ _ (R_fa hA rfl rfl (fun w => fa_hart _ 13 44 (by decide) rfl w) _) (fun a hA => ?_)
    refine W_val hA rfl 194 rfl (by decide) _ _ (R_ld hA rfl rfl ag_u64 (HH.u 44 (by decide) (by decide))) (fun a hA => ?_)
    refine W_val hA rfl 195 rfl (by decide) _ _ (R_mov hA rfl rfl _) (fun a hA => ?_)
    refine W_call3 hA (by decide) (fun _ _ => by kernel_rfl) rfl rfl rfl (dput_any _ _ _ (by first | exact ok.n _ | exact HOk.n HO _) (by first | exact and_in _ _ | (unfold In64; decide) | exact In64.lit (by decide)) (by first | exact hv | exact wrap_in _) _) (fun w79 hw a hA => ?_)
    subst hw
    refine W_val hA rfl 197 rfl (by decide) _ _ (R_fa hA rfl rfl (fun w => fa_hart _ 13 44 (by decide) rfl w) _) (fun a hA => ?_)
    refine W_stU hA rfl rfl rfl rfl rfl HH (by decide) (by decide) (fun w80 hT HN => ?_)
    replace HB := HB.trans (hT.bel _ gHH)
    replace LL := hT.lines LL (by omega)
    replace RR := hT.hart RR (by omega)
    replace HH := HN
    clear hT HN
    refine W_nil ?_
    refine blk_nrm ?_
    refine then_nrm ?_
    show Code.wp Try.prog _ _ _ _
    refine wp_seq ?_
    refine wp_region_list ?_
    refine W_val hA rfl 324 rfl (by decide) _ _ (R_row hA rfl rfl HH Try.underlying25 (size_hart.trans (by rw [varr_size]))) (fun a hA => ?_)
    refine W_cpH hA rfl rfl rfl rfl rfl RR (fun w81 hT HN => ?_)
    replace HB := HB.trans (hT.bel _ gRR)
    replace HH := hT.hart HH (by omega)
    replace LL := hT.lines LL (by omega)
    replace RR := HN
    clear hT HN
    refine W_nil ?_
    refine then_nrm ?_
    show Code.wp Try.prog _ _ _ _
    refine wp_ret ?_
    refine ret_hart (j := 8) (by kernel_rfl) hA rfl RR ?_
    refine ⟨congrArg (fun s : HS => Ending.returned (hartV s)) ?_, HB⟩
    unfold writeZ
    rw [hm]
    have e := eq_of_beq c30
    subst e
    refine Eq.trans ?_ (writeM_fld t v 5 (by omega)).symm
    refine congrArg (t.put 44) ?_
    refine Eq.trans ?_ (putZ_oth 5 (by decide) (t.n 44) v).symm
    rfl
  refine W_test hA rfl (by decide) (by decide) rfl rfl (fun c31 a hA => ?_) (fun c31 a hA => ?_)
  · skip
    refine wp_region_list ?_
    refine W_val hA rfl 200 rfl (by decide) _ _ (R_mov hA rfl rfl _) (fun a hA => ?_)
    refine W_val hA rfl 201 rfl (by decide) _ _ (R_fa hA rfl rfl (fun w => fa_hart _ 14 45 (by decide) rfl w) _) (fun a hA => ?_)
    refine W_stU hA rfl rfl rfl rfl rfl HH (by decide) (by decide) (fun w82 hT HN => ?_)
    replace HB := HB.trans (hT.bel _ gHH)
    replace LL := hT.lines LL (by omega)
    replace RR := hT.hart RR (by omega)
    replace HH := HN
    clear hT HN
    refine W_nil ?_
    refine blk_nrm ?_
    refine then_nrm ?_
    show Code.wp Try.prog _ _ _ _
    refine wp_seq ?_
    refine wp_region_list ?_
    refine W_val hA rfl 324 rfl (by decide) _ _ (R_row hA rfl rfl HH Try.underlying25 (size_hart.trans (by rw [varr_size]))) (fun a hA => ?_)
    refine W_cpH hA rfl rfl rfl rfl rfl RR (fun w83 hT HN => ?_)
    replace HB := HB.trans (hT.bel _ gRR)
    replace HH := hT.hart HH (by omega)
    replace LL := hT.lines LL (by omega)
    replace RR := HN
    clear hT HN
    refine W_nil ?_
    refine then_nrm ?_
    show Code.wp Try.prog _ _ _ _
    refine wp_ret ?_
    refine ret_hart (j := 8) (by kernel_rfl) hA rfl RR ?_
    refine ⟨congrArg (fun s : HS => Ending.returned (hartV s)) ?_, HB⟩
    unfold writeZ
    rw [hm]
    have e := eq_of_beq c31
    subst e
    refine Eq.trans ?_ (writeM_fld t v 6 (by omega)).symm
    refine congrArg (t.put 45) ?_
    refine Eq.trans ?_ (putZ_oth 6 (by decide) (t.n 45) v).symm
    exact (merge_all _ hv).symm
  refine W_test hA rfl (by decide) (by decide) rfl rfl (fun c32 a hA => ?_) (fun c32 a hA => ?_)
  · skip
    refine still_tail 6 (by kernel_rfl) (fun w4 hw => ?_)
    replace HB := HB.trans (hw.mono HB.size)
    replace HH := HH.below hw
    replace LL := LL.below hw
    replace RR := RR.below hw
    clear hw
    refine S_val hA rfl 204 rfl (by decide) _ (R_fa hA rfl rfl (fun w => fa_hart _ 15 46 (by decide) rfl w) _) (fun a hA => ?_)
    refine S_val hA rfl 205 rfl (by decide) _ (R_ld hA rfl rfl ag_u64 (HH.u 46 (by decide) (by decide))) (fun a hA => ?_)
    refine S_call hA (by decide) (fun _ _ => by kernel_rfl) (args1 hA rfl) (dbut_any _ 18446744073709551612 (by kernel_rfl) _) (fun a hA => ?_)
    refine S_val hA rfl 207 rfl (by decide) _ (R_mov hA rfl rfl _) (fun a hA => ?_)
    refine S_call hA (by decide) (fun _ _ => by kernel_rfl) (args3 hA rfl rfl rfl) (dput_any _ _ _ (by first | exact ok.n _ | exact HOk.n HO _) (by first | exact and_in _ _ | (unfold In64; decide) | exact In64.lit (by decide)) (by first | exact hv | exact wrap_in _) _) (fun a hA => ?_)
    refine S_val hA rfl 209 rfl (by decide) _ (R_fa hA rfl rfl (fun w => fa_hart _ 15 46 (by decide) rfl w) _) (fun a hA => ?_)
    refine still_nil ?_
    refine W_stU hA rfl rfl rfl rfl rfl HH (by decide) (by decide) (fun w84 hT HN => ?_)
    replace HB := HB.trans (hT.bel _ gHH)
    replace LL := hT.lines LL (by omega)
    replace RR := hT.hart RR (by omega)
    replace HH := HN
    clear hT HN
    refine W_nil ?_
    refine blk_nrm ?_
    refine then_nrm ?_
    show Code.wp Try.prog _ _ _ _
    refine wp_seq ?_
    refine wp_region_list ?_
    refine W_val hA rfl 324 rfl (by decide) _ _ (R_row hA rfl rfl HH Try.underlying25 (size_hart.trans (by rw [varr_size]))) (fun a hA => ?_)
    refine W_cpH hA rfl rfl rfl rfl rfl RR (fun w85 hT HN => ?_)
    replace HB := HB.trans (hT.bel _ gRR)
    replace HH := hT.hart HH (by omega)
    replace LL := hT.lines LL (by omega)
    replace RR := HN
    clear hT HN
    refine W_nil ?_
    refine then_nrm ?_
    show Code.wp Try.prog _ _ _ _
    refine wp_ret ?_
    refine ret_hart (j := 8) (by kernel_rfl) hA rfl RR ?_
    refine ⟨congrArg (fun s : HS => Ending.returned (hartV s)) ?_, HB⟩
    unfold writeZ
    rw [hm]
    have e := eq_of_beq c32
    subst e
    refine Eq.trans ?_ (writeM_fld t v 7 (by omega)).symm
    refine congrArg (t.put 46) ?_
    refine Eq.trans ?_ (putZ_oth 7 (by decide) (t.n 46) v).symm
    rfl
  refine W_test hA rfl (by decide) (by decide) rfl rfl (fun c33 a hA => ?_) (fun c33 a hA => ?_)
  · skip
    refine wp_region_list ?_
    refine W_val hA rfl 212 rfl (by decide) _ _ (R_mov hA rfl rfl _) (fun a hA => ?_)
    refine W_val hA rfl 213 rfl (by decide) _ _ (R_fa hA rfl rfl (fun w => fa_hart _ 16 47 (by decide) rfl w) _) (fun a hA => ?_)
    refine W_stU hA rfl rfl rfl rfl rfl HH (by decide) (by decide) (fun w86 hT HN => ?_)
    replace HB := HB.trans (hT.bel _ gHH)
    replace LL := hT.lines LL (by omega)
    replace RR := hT.hart RR (by omega)
    replace HH := HN
    clear hT HN
    refine W_nil ?_
    refine blk_nrm ?_
    refine then_nrm ?_
    show Code.wp Try.prog _ _ _ _
    refine wp_seq ?_
    refine wp_region_list ?_
    refine W_val hA rfl 324 rfl (by decide) _ _ (R_row hA rfl rfl HH Try.underlying25 (size_hart.trans (by rw [varr_size]))) (fun a hA => ?_)
    refine W_cpH hA rfl rfl rfl rfl rfl RR (fun w87 hT HN => ?_)
    replace HB := HB.trans (hT.bel _ gRR)
    replace HH := hT.hart HH (by omega)
    replace LL := hT.lines LL (by omega)
    replace RR := HN
    clear hT HN
    refine W_nil ?_
    refine then_nrm ?_
    show Code.wp Try.prog _ _ _ _
    refine wp_ret ?_
    refine ret_hart (j := 8) (by kernel_rfl) hA rfl RR ?_
    refine ⟨congrArg (fun s : HS => Ending.returned (hartV s)) ?_, HB⟩
    unfold writeZ
    rw [hm]
    have e := eq_of_beq c33
    subst e
    refine Eq.trans ?_ (writeM_fld t v 8 (by omega)).symm
    refine congrArg (t.put 47) ?_
    refine Eq.trans ?_ (putZ_oth 8 (by decide) (t.n 47) v).symm
    exact (merge_all _ hv).symm
  refine W_test hA rfl (by decide) (by decide) rfl rfl (fun c34 a hA => ?_) (fun c34 a hA => ?_)
  · skip
    refine wp_region_list ?_
    refine W_val hA rfl 216 rfl (by decide) _ _ (R_mov hA rfl rfl _) (fun a hA => ?_)
    refine W_val hA rfl 217 rfl (by decide) _ _ (R_fa hA rfl rfl (fun w => fa_hart _ 17 48 (by decide) rfl w) _) (fun a hA => ?_)
    refine W_stU hA rfl rfl rfl rfl rfl HH (by decide) (by decide) (fun w88 hT HN => ?_)
    replace HB := HB.trans (hT.bel _ gHH)
    replace LL := hT.lines LL (by omega)
    replace RR := hT.hart RR (by omega)
    replace HH := HN
    clear hT HN
    refine W_nil ?_
    refine blk_nrm ?_
    refine then_nrm ?_
    show Code.wp Try.prog _ _ _ _
    refine wp_seq ?_
    refine wp_region_list ?_
    refine W_val hA rfl 324 rfl (by decide) _ _ (R_row hA rfl rfl HH Try.underlying25 (size_hart.trans (by rw [varr_size]))) (fun a hA => ?_)
    refine W_cpH hA rfl rfl rfl rfl rfl RR (fun w89 hT HN => ?_)
    replace HB := HB.trans (hT.bel _ gRR)
    replace HH := hT.hart HH (by omega)
    replace LL := hT.lines LL (by omega)
    replace RR := HN
    clear hT HN
    refine W_nil ?_
    refine then_nrm ?_
    show Code.wp Try.prog _ _ _ _
    refine wp_ret ?_
    refine ret_hart (j := 8) (by kernel_rfl) hA rfl RR ?_
    refine ⟨congrArg (fun s : HS => Ending.returned (hartV s)) ?_, HB⟩
    unfold writeZ
    rw [hm]
    have e := eq_of_beq c34
    subst e
    refine Eq.trans ?_ (writeM_fld t v 9 (by omega)).symm
    refine congrArg (t.put 48) ?_
    refine Eq.trans ?_ (putZ_oth 9 (by decide) (t.n 48) v).symm
    exact (merge_all _ hv).symm
  refine W_test hA rfl (by decide) (by decide) rfl rfl (fun c35 a hA => ?_) (fun c35 a hA => ?_)
  · skip
    refine wp_seq ?_
    refine wp_region_list ?_
    refine W_val hA rfl 220 rfl (by decide) _ _ (R_fa hA rfl rfl (fun w => fa_hart _ 11 42 (by decide) rfl w) _) (fun a hA => ?_)
    refine W_val hA rfl 221 rfl (by decide) _ _ (R_ld hA rfl rfl ag_u64 (HH.u 42 (by decide) (by decide))) (fun a hA => ?_)
    refine W_val hA rfl 222 rfl (by decide) _ _ (R_mov hA rfl rfl _) (fun a hA => ?_)
    refine W_call3 hA (by decide) (fun _ _ => by kernel_rfl) rfl rfl rfl (dput_any _ _ _ (by first | exact ok.n _ | exact HOk.n HO _) (by first | exact and_in _ _ | (unfold In64; decide) | exact In64.lit (by decide)) (by first | exact hv | exact wrap_in _) _) (fun w90 hw a hA => ?_)
    subst hw
    refine W_val hA rfl 224 rfl (by decide) _ _ (R_fa hA rfl rfl (fun w => fa_hart _ 11 42 (by decide) rfl w) _) (fun a hA => ?_)
    refine W_stU hA rfl rfl rfl rfl rfl HH (by decide) (by decide) (fun w91 hT HN => ?_)
    replace HB := HB.trans (hT.bel _ gHH)
    replace LL := hT.lines LL (by omega)
    replace RR := hT.hart RR (by omega)
    replace HH := HN
    clear hT HN
    refine W_nil ?_
    refine then_nrm ?_
    show Code.wp Try.prog _ _ _ _
    refine wp_region_list ?_
    refine W_val hA rfl 225 rfl (by decide) _ _ (R_fa hA rfl rfl (fun w => fa_hart _ 30 61 (by decide) rfl w) _) (fun a hA => ?_)
    refine W_val hA rfl 226 rfl (by decide) _ _ (R_ld hA rfl rfl ag_u64 (HH.u 61 (by decide) (by decide))) (fun a hA => ?_)
    refine W_val hA rfl 227 rfl (by decide) _ _ (R_mov hA rfl rfl _) (fun a hA => ?_)
    refine W_call3 hA (by decide) (fun _ _ => by kernel_rfl) rfl rfl rfl (dput_any _ _ _ (by first | exact ok.n _ | exact HOk.n HO _) (by first | exact and_in _ _ | (unfold In64; decide) | exact In64.lit (by decide)) (by first | exact hv | exact wrap_in _) _) (fun w92 hw a hA => ?_)
    subst hw
    refine W_val hA rfl 229 rfl (by decide) _ _ (R_fa hA rfl rfl (fun w => fa_hart _ 30 61 (by decide) rfl w) _) (fun a hA => ?_)
    refine W_stU hA rfl rfl rfl rfl rfl HH (by decide) (by decide) (fun w93 hT HN => ?_)
    replace HB := HB.trans (hT.bel _ gHH)
    replace LL := hT.lines LL (by omega)
    replace RR := hT.hart RR (by omega)
    replace HH := HN
    clear hT HN
    refine W_nil ?_
    refine blk_nrm ?_
    refine then_nrm ?_
    show Code.wp Try.prog _ _ _ _
    refine wp_seq ?_
    refine wp_region_list ?_
    refine W_val hA rfl 324 rfl (by decide) _ _ (R_row hA rfl rfl HH Try.underlying25 (size_hart.trans (by rw [varr_size]))) (fun a hA => ?_)
    refine W_cpH hA rfl rfl rfl rfl rfl RR (fun w94 hT HN => ?_)
    replace HB := HB.trans (hT.bel _ gRR)
    replace HH := hT.hart HH (by omega)
    replace LL := hT.lines LL (by omega)
    replace RR := HN
    clear hT HN
    refine W_nil ?_
    refine then_nrm ?_
    show Code.wp Try.prog _ _ _ _
    refine wp_ret ?_
    refine ret_hart (j := 8) (by kernel_rfl) hA rfl RR ?_
    refine ⟨congrArg (fun s : HS => Ending.returned (hartV s)) ?_, HB⟩
    unfold writeZ
    rw [hm]
    have e := eq_of_beq c35
    subst e
    rfl
  refine W_test hA rfl (by decide) (by decide) rfl rfl (fun c36 a hA => ?_) (fun c36 a hA => ?_)
  · skip
    refine wp_region_list ?_
    refine W_val hA rfl 232 rfl (by decide) _ _ (R_mov hA rfl rfl _) (fun a hA => ?_)
    refine W_val hA rfl 233 rfl (by decide) _ _ (R_fa hA rfl rfl (fun w => fa_hart _ 19 50 (by decide) rfl w) _) (fun a hA => ?_)
    refine W_stU hA rfl rfl rfl rfl rfl HH (by decide) (by decide) (fun w95 hT HN => ?_)
    replace HB := HB.trans (hT.bel _ gHH)
    replace LL := hT.lines LL (by omega)
    replace RR := hT.hart RR (by omega)
    replace HH := HN
    clear hT HN
    refine W_nil ?_
    refine blk_nrm ?_
    refine then_nrm ?_
    show Code.wp Try.prog _ _ _ _
    refine wp_seq ?_
    refine wp_region_list ?_
    refine W_val hA rfl 324 rfl (by decide) _ _ (R_row hA rfl rfl HH Try.underlying25 (size_hart.trans (by rw [varr_size]))) (fun a hA => ?_)
    refine W_cpH hA rfl rfl rfl rfl rfl RR (fun w96 hT HN => ?_)
    replace HB := HB.trans (hT.bel _ gRR)
    replace HH := hT.hart HH (by omega)
    replace LL := hT.lines LL (by omega)
    replace RR := HN
    clear hT HN
    refine W_nil ?_
    refine then_nrm ?_
    show Code.wp Try.prog _ _ _ _
    refine wp_ret ?_
    refine ret_hart (j := 8) (by kernel_rfl) hA rfl RR ?_
    refine ⟨congrArg (fun s : HS => Ending.returned (hartV s)) ?_, HB⟩
    unfold writeZ
    rw [hm]
    have e := eq_of_beq c36
    subst e
    refine Eq.trans ?_ (writeM_fld t v 11 (by omega)).symm
    refine congrArg (t.put 50) ?_
    refine Eq.trans ?_ (putZ_oth 11 (by decide) (t.n 50) v).symm
    exact (merge_all _ hv).symm
  refine W_test hA rfl (by decide) (by decide) rfl rfl (fun c37 a hA => ?_) (fun c37 a hA => ?_)
  · skip
    refine wp_region_list ?_
    refine W_val hA rfl 236 rfl (by decide) _ _ (R_mov hA rfl rfl _) (fun a hA => ?_)
    refine W_val hA rfl 237 rfl (by decide) _ _ (R_fa hA rfl rfl (fun w => fa_hart _ 18 49 (by decide) rfl w) _) (fun a hA => ?_)
    refine W_stU hA rfl rfl rfl rfl rfl HH (by decide) (by decide) (fun w97 hT HN => ?_)
    replace HB := HB.trans (hT.bel _ gHH)
    replace LL := hT.lines LL (by omega)
    replace RR := hT.hart RR (by omega)
    replace HH := HN
    clear hT HN
    refine W_nil ?_
    refine blk_nrm ?_
    refine then_nrm ?_
    show Code.wp Try.prog _ _ _ _
    refine wp_seq ?_
    refine wp_region_list ?_
    refine W_val hA rfl 324 rfl (by decide) _ _ (R_row hA rfl rfl HH Try.underlying25 (size_hart.trans (by rw [varr_size]))) (fun a hA => ?_)
    refine W_cpH hA rfl rfl rfl rfl rfl RR (fun w98 hT HN => ?_)
    replace HB := HB.trans (hT.bel _ gRR)
    replace HH := hT.hart HH (by omega)
    replace LL := hT.lines LL (by omega)
    replace RR := HN
    clear hT HN
    refine W_nil ?_
    refine then_nrm ?_
    show Code.wp Try.prog _ _ _ _
    refine wp_ret ?_
    refine ret_hart (j := 8) (by kernel_rfl) hA rfl RR ?_
    refine ⟨congrArg (fun s : HS => Ending.returned (hartV s)) ?_, HB⟩
    unfold writeZ
    rw [hm]
    have e := eq_of_beq c37
    subst e
    refine Eq.trans ?_ (writeM_fld t v 10 (by omega)).symm
    refine congrArg (t.put 49) ?_
    refine Eq.trans ?_ (putZ_oth 10 (by decide) (t.n 49) v).symm
    exact (merge_all _ hv).symm
  refine W_test hA rfl (by decide) (by decide) rfl rfl (fun c38 a hA => ?_) (fun c38 a hA => ?_)
  · skip
    refine wp_region_list ?_
    refine W_val hA rfl 240 rfl (by decide) _ _ (R_fa hA rfl rfl (fun w => fa_hart _ 27 58 (by decide) rfl w) _) (fun a hA => ?_)
    refine W_val hA rfl 241 rfl (by decide) _ _ (R_ld hA rfl rfl ag_u64 (HH.u 58 (by decide) (by decide))) (fun a hA => ?_)
    refine W_val hA rfl 242 rfl (by decide) _ _ (R_mov hA rfl rfl _) (fun a hA => ?_)
    refine W_call3 hA (by decide) (fun _ _ => by kernel_rfl) rfl rfl rfl (dput_any _ _ _ (by first | exact ok.n _ | exact HOk.n HO _) (by first | exact and_in _ _ | (unfold In64; decide) | exact In64.lit (by decide)) (by first | exact hv | exact wrap_in _) _) (fun w99 hw a hA => ?_)
    subst hw
    refine W_val hA rfl 244 rfl (by decide) _ _ (R_fa hA rfl rfl (fun w => fa_hart _ 27 58 (by decide) rfl w) _) (fun a hA => ?_)
    refine W_stU hA rfl rfl rfl rfl rfl HH (by decide) (by decide) (fun w100 hT HN => ?_)
    replace HB := HB.trans (hT.bel _ gHH)
    replace LL := hT.lines LL (by omega)
    replace RR := hT.hart RR (by omega)
    replace HH := HN
    clear hT HN
    refine W_nil ?_
    refine blk_nrm ?_
    refine then_nrm ?_
    show Code.wp Try.prog _ _ _ _
    refine wp_seq ?_
    refine wp_region_list ?_
    refine W_val hA rfl 324 rfl (by decide) _ _ (R_row hA rfl rfl HH Try.underlying25 (size_hart.trans (by rw [varr_size]))) (fun a hA => ?_)
    refine W_cpH hA rfl rfl rfl rfl rfl RR (fun w101 hT HN => ?_)
    replace HB := HB.trans (hT.bel _ gRR)
    replace HH := hT.hart HH (by omega)
    replace LL := hT.lines LL (by omega)
    replace RR := HN
    clear hT HN
    refine W_nil ?_
    refine then_nrm ?_
    show Code.wp Try.prog _ _ _ _
    refine wp_ret ?_
    refine ret_hart (j := 8) (by kernel_rfl) hA rfl RR ?_
    refine ⟨congrArg (fun s : HS => Ending.returned (hartV s)) ?_, HB⟩
    unfold writeZ
    rw [hm]
    have e := eq_of_beq c38
    subst e
    refine Eq.trans ?_ (writeM_fld t v 21 (by omega)).symm
    refine congrArg (t.put 58) ?_
    refine Eq.trans ?_ (putZ_oth 21 (by decide) (t.n 58) v).symm
    rfl
  refine W_test hA rfl (by decide) (by decide) rfl rfl (fun c39 a hA => ?_) (fun c39 a hA => ?_)
  · skip
    refine wp_region_list ?_
    refine W_val hA rfl 247 rfl (by decide) _ _ (R_fa hA rfl rfl (fun w => fa_hart _ 28 59 (by decide) rfl w) _) (fun a hA => ?_)
    refine W_val hA rfl 248 rfl (by decide) _ _ (R_ld hA rfl rfl ag_u64 (HH.u 59 (by decide) (by decide))) (fun a hA => ?_)
    refine W_val hA rfl 249 rfl (by decide) _ _ (R_mov hA rfl rfl _) (fun a hA => ?_)
    refine W_call3 hA (by decide) (fun _ _ => by kernel_rfl) rfl rfl rfl (dput_any _ _ _ (by first | exact ok.n _ | exact HOk.n HO _) (by first | exact and_in _ _ | (unfold In64; decide) | exact In64.lit (by decide)) (by first | exact hv | exact wrap_in _) _) (fun w102 hw a hA => ?_)
    subst hw
    refine W_val hA rfl 251 rfl (by decide) _ _ (R_fa hA rfl rfl (fun w => fa_hart _ 28 59 (by decide) rfl w) _) (fun a hA => ?_)
    refine W_stU hA rfl rfl rfl rfl rfl HH (by decide) (by decide) (fun w103 hT HN => ?_)
    replace HB := HB.trans (hT.bel _ gHH)
    replace LL := hT.lines LL (by omega)
    replace RR := hT.hart RR (by omega)
    replace HH := HN
    clear hT HN
    refine W_nil ?_
    refine blk_nrm ?_
    refine then_nrm ?_
    show Code.wp Try.prog _ _ _ _
    refine wp_seq ?_
    refine wp_region_list ?_
    refine W_val hA rfl 324 rfl (by decide) _ _ (R_row hA rfl rfl HH Try.underlying25 (size_hart.trans (by rw [varr_size]))) (fun a hA => ?_)
    refine W_cpH hA rfl rfl rfl rfl rfl RR (fun w104 hT HN => ?_)
    replace HB := HB.trans (hT.bel _ gRR)
    replace HH := hT.hart HH (by omega)
    replace LL := hT.lines LL (by omega)
    replace RR := HN
    clear hT HN
    refine W_nil ?_
    refine then_nrm ?_
    show Code.wp Try.prog _ _ _ _
    refine wp_ret ?_
    refine ret_hart (j := 8) (by kernel_rfl) hA rfl RR ?_
    refine ⟨congrArg (fun s : HS => Ending.returned (hartV s)) ?_, HB⟩
    unfold writeZ
    rw [hm]
    have e := eq_of_beq c39
    subst e
    refine Eq.trans ?_ (writeM_fld t v 22 (by omega)).symm
    refine congrArg (t.put 59) ?_
    refine Eq.trans ?_ (putZ_oth 22 (by decide) (t.n 59) v).symm
    rfl
  refine W_test hA rfl (by decide) (by decide) rfl rfl (fun c40 a hA => ?_) (fun c40 a hA => ?_)
  · skip
    refine wp_region_list ?_
    refine W_val hA rfl 254 rfl (by decide) _ _ (R_fa hA rfl rfl (fun w => fa_hart _ 29 60 (by decide) rfl w) _) (fun a hA => ?_)
    refine W_val hA rfl 255 rfl (by decide) _ _ (R_ld hA rfl rfl ag_u64 (HH.u 60 (by decide) (by decide))) (fun a hA => ?_)
    refine W_val hA rfl 256 rfl (by decide) _ _ (R_mov hA rfl rfl _) (fun a hA => ?_)
    refine W_call3 hA (by decide) (fun _ _ => by kernel_rfl) rfl rfl rfl (dput_any _ _ _ (by first | exact ok.n _ | exact HOk.n HO _) (by first | exact and_in _ _ | (unfold In64; decide) | exact In64.lit (by decide)) (by first | exact hv | exact wrap_in _) _) (fun w105 hw a hA => ?_)
    subst hw
    refine W_val hA rfl 258 rfl (by decide) _ _ (R_fa hA rfl rfl (fun w => fa_hart _ 29 60 (by decide) rfl w) _) (fun a hA => ?_)
    refine W_stU hA rfl rfl rfl rfl rfl HH (by decide) (by decide) (fun w106 hT HN => ?_)
    replace HB := HB.trans (hT.bel _ gHH)
    replace LL := hT.lines LL (by omega)
    replace RR := hT.hart RR (by omega)
    replace HH := HN
    clear hT HN
    refine W_nil ?_
    refine blk_nrm ?_
    refine then_nrm ?_
    show Code.wp Try.prog _ _ _ _
    refine wp_seq ?_
    refine wp_region_list ?_
    refine W_val hA rfl 324 rfl (by decide) _ _ (R_row hA rfl rfl HH Try.underlying25 (size_hart.trans (by rw [varr_size]))) (fun a hA => ?_)
    refine W_cpH hA rfl rfl rfl rfl rfl RR (fun w107 hT HN => ?_)
    replace HB := HB.trans (hT.bel _ gRR)
    replace HH := hT.hart HH (by omega)
    replace LL := hT.lines LL (by omega)
    replace RR := HN
    clear hT HN
    refine W_nil ?_
    refine then_nrm ?_
    show Code.wp Try.prog _ _ _ _
    refine wp_ret ?_
    refine ret_hart (j := 8) (by kernel_rfl) hA rfl RR ?_
    refine ⟨congrArg (fun s : HS => Ending.returned (hartV s)) ?_, HB⟩
    unfold writeZ
    rw [hm]
    have e := eq_of_beq c40
    subst e
    refine Eq.trans ?_ (writeM_fld t v 23 (by omega)).symm
    refine congrArg (t.put 60) ?_
    refine Eq.trans ?_ (putZ_oth 23 (by decide) (t.n 60) v).symm
    rfl
  refine W_test hA rfl (by decide) (by decide) rfl rfl (fun c41 a hA => ?_) (fun c41 a hA => ?_)
  · skip
    refine wp_region_list ?_
    refine W_val hA rfl 261 rfl (by decide) _ _ (R_fa hA rfl rfl (fun w => fa_hart _ 10 41 (by decide) rfl w) _) (fun a hA => ?_)
    refine W_val hA rfl 262 rfl (by decide) _ _ (R_ld hA rfl rfl ag_u64 (HH.u 41 (by decide) (by decide))) (fun a hA => ?_)
    refine W_val hA rfl 263 rfl (by decide) _ _ (R_mov hA rfl rfl _) (fun a hA => ?_)
    refine W_call3 hA (by decide) (fun _ _ => by kernel_rfl) rfl rfl rfl (dput_any _ _ _ (by first | exact ok.n _ | exact HOk.n HO _) (by first | exact and_in _ _ | (unfold In64; decide) | exact In64.lit (by decide)) (by first | exact hv | exact wrap_in _) _) (fun w108 hw a hA => ?_)
    subst hw
    refine W_val hA rfl 265 rfl (by decide) _ _ (R_fa hA rfl rfl (fun w => fa_hart _ 10 41 (by decide) rfl w) _) (fun a hA => ?_)
    refine W_stU hA rfl rfl rfl rfl rfl HH (by decide) (by decide) (fun w109 hT HN => ?_)
    replace HB := HB.trans (hT.bel _ gHH)
    replace LL := hT.lines LL (by omega)
    replace RR := hT.hart RR (by omega)
    replace HH := HN
    clear hT HN
    refine W_nil ?_
    refine blk_nrm ?_
    refine then_nrm ?_
    show Code.wp Try.prog _ _ _ _
    refine wp_seq ?_
    refine wp_region_list ?_
    refine W_val hA rfl 324 rfl (by decide) _ _ (R_row hA rfl rfl HH Try.underlying25 (size_hart.trans (by rw [varr_size]))) (fun a hA => ?_)
    refine W_cpH hA rfl rfl rfl rfl rfl RR (fun w110 hT HN => ?_)
    replace HB := HB.trans (hT.bel _ gRR)
    replace HH := hT.hart HH (by omega)
    replace LL := hT.lines LL (by omega)
    replace RR := HN
    clear hT HN
    refine W_nil ?_
    refine then_nrm ?_
    show Code.wp Try.prog _ _ _ _
    refine wp_ret ?_
    refine ret_hart (j := 8) (by kernel_rfl) hA rfl RR ?_
    refine ⟨congrArg (fun s : HS => Ending.returned (hartV s)) ?_, HB⟩
    unfold writeZ
    rw [hm]
    have e := eq_of_beq c41
    subst e
    rfl
  refine W_test hA rfl (by decide) (by decide) rfl rfl (fun c42 a hA => ?_) (fun c42 a hA => ?_)
  · skip
    refine wp_region_list ?_
    refine W_val hA rfl 268 rfl (by decide) _ _ (R_mov hA rfl rfl _) (fun a hA => ?_)
    refine W_val hA rfl 269 rfl (by decide) _ _ (R_fa hA rfl rfl (fun w => fa_hart _ 36 67 (by decide) rfl w) _) (fun a hA => ?_)
    refine W_stU hA rfl rfl rfl rfl rfl HH (by decide) (by decide) (fun w111 hT HN => ?_)
    replace HB := HB.trans (hT.bel _ gHH)
    replace LL := hT.lines LL (by omega)
    replace RR := hT.hart RR (by omega)
    replace HH := HN
    clear hT HN
    refine W_nil ?_
    refine blk_nrm ?_
    refine then_nrm ?_
    show Code.wp Try.prog _ _ _ _
    refine wp_seq ?_
    refine wp_region_list ?_
    refine W_val hA rfl 324 rfl (by decide) _ _ (R_row hA rfl rfl HH Try.underlying25 (size_hart.trans (by rw [varr_size]))) (fun a hA => ?_)
    refine W_cpH hA rfl rfl rfl rfl rfl RR (fun w112 hT HN => ?_)
    replace HB := HB.trans (hT.bel _ gRR)
    replace HH := hT.hart HH (by omega)
    replace LL := hT.lines LL (by omega)
    replace RR := HN
    clear hT HN
    refine W_nil ?_
    refine then_nrm ?_
    show Code.wp Try.prog _ _ _ _
    refine wp_ret ?_
    refine ret_hart (j := 8) (by kernel_rfl) hA rfl RR ?_
    refine ⟨congrArg (fun s : HS => Ending.returned (hartV s)) ?_, HB⟩
    unfold writeZ
    rw [hm]
    have e := eq_of_beq c42
    subst e
    refine Eq.trans ?_ (writeM_fld t v 30 (by omega)).symm
    refine congrArg (t.put 67) ?_
    refine Eq.trans ?_ (putZ_oth 30 (by decide) (t.n 67) v).symm
    exact (merge_all _ hv).symm
  refine W_test hA rfl (by decide) (by decide) rfl rfl (fun c43 a hA => ?_) (fun c43 a hA => ?_)
  · skip
    refine wp_region_list ?_
    refine W_val hA rfl 272 rfl (by decide) _ _ (R_fa hA rfl rfl (fun w => fa_hart _ 31 62 (by decide) rfl w) _) (fun a hA => ?_)
    refine W_val hA rfl 273 rfl (by decide) _ _ (R_ld hA rfl rfl ag_u64 (HH.u 62 (by decide) (by decide))) (fun a hA => ?_)
    refine W_val hA rfl 274 rfl (by decide) _ _ (R_mov hA rfl rfl _) (fun a hA => ?_)
    refine W_call3 hA (by decide) (fun _ _ => by kernel_rfl) rfl rfl rfl (dput_any _ _ _ (by first | exact ok.n _ | exact HOk.n HO _) (by first | exact and_in _ _ | (unfold In64; decide) | exact In64.lit (by decide)) (by first | exact hv | exact wrap_in _) _) (fun w113 hw a hA => ?_)
    subst hw
    refine W_val hA rfl 276 rfl (by decide) _ _ (R_fa hA rfl rfl (fun w => fa_hart _ 31 62 (by decide) rfl w) _) (fun a hA => ?_)
    refine W_stU hA rfl rfl rfl rfl rfl HH (by decide) (by decide) (fun w114 hT HN => ?_)
    replace HB := HB.trans (hT.bel _ gHH)
    replace LL := hT.lines LL (by omega)
    replace RR := hT.hart RR (by omega)
    replace HH := HN
    clear hT HN
    refine W_nil ?_
    refine blk_nrm ?_
    refine then_nrm ?_
    show Code.wp Try.prog _ _ _ _
    refine wp_seq ?_
    refine wp_region_list ?_
    refine W_val hA rfl 324 rfl (by decide) _ _ (R_row hA rfl rfl HH Try.underlying25 (size_hart.trans (by rw [varr_size]))) (fun a hA => ?_)
    refine W_cpH hA rfl rfl rfl rfl rfl RR (fun w115 hT HN => ?_)
    replace HB := HB.trans (hT.bel _ gRR)
    replace HH := hT.hart HH (by omega)
    replace LL := hT.lines LL (by omega)
    replace RR := HN
    clear hT HN
    refine W_nil ?_
    refine then_nrm ?_
    show Code.wp Try.prog _ _ _ _
    refine wp_ret ?_
    refine ret_hart (j := 8) (by kernel_rfl) hA rfl RR ?_
    refine ⟨congrArg (fun s : HS => Ending.returned (hartV s)) ?_, HB⟩
    unfold writeZ
    rw [hm]
    have e := eq_of_beq c43
    subst e
    refine Eq.trans ?_ (writeM_fld t v 25 (by omega)).symm
    refine congrArg (t.put 62) ?_
    refine Eq.trans ?_ (putZ_oth 25 (by decide) (t.n 62) v).symm
    rfl
  refine W_test hA rfl (by decide) (by decide) rfl rfl (fun c44 a hA => ?_) (fun c44 a hA => ?_)
  · skip
    refine wp_region_list ?_
    refine W_val hA rfl 279 rfl (by decide) _ _ (R_fa hA rfl rfl (fun w => fa_hart _ 32 63 (by decide) rfl w) _) (fun a hA => ?_)
    refine W_val hA rfl 280 rfl (by decide) _ _ (R_ld hA rfl rfl ag_u64 (HH.u 63 (by decide) (by decide))) (fun a hA => ?_)
    refine W_val hA rfl 281 rfl (by decide) _ _ (R_mov hA rfl rfl _) (fun a hA => ?_)
    refine W_call3 hA (by decide) (fun _ _ => by kernel_rfl) rfl rfl rfl (dput_any _ _ _ (by first | exact ok.n _ | exact HOk.n HO _) (by first | exact and_in _ _ | (unfold In64; decide) | exact In64.lit (by decide)) (by first | exact hv | exact wrap_in _) _) (fun w116 hw a hA => ?_)
    subst hw
    refine W_val hA rfl 283 rfl (by decide) _ _ (R_fa hA rfl rfl (fun w => fa_hart _ 32 63 (by decide) rfl w) _) (fun a hA => ?_)
    refine W_stU hA rfl rfl rfl rfl rfl HH (by decide) (by decide) (fun w117 hT HN => ?_)
    replace HB := HB.trans (hT.bel _ gHH)
    replace LL := hT.lines LL (by omega)
    replace RR := hT.hart RR (by omega)
    replace HH := HN
    clear hT HN
    refine W_nil ?_
    refine blk_nrm ?_
    refine then_nrm ?_
    show Code.wp Try.prog _ _ _ _
    refine wp_seq ?_
    refine wp_region_list ?_
    refine W_val hA rfl 324 rfl (by decide) _ _ (R_row hA rfl rfl HH Try.underlying25 (size_hart.trans (by rw [varr_size]))) (fun a hA => ?_)
    refine W_cpH hA rfl rfl rfl rfl rfl RR (fun w118 hT HN => ?_)
    replace HB := HB.trans (hT.bel _ gRR)
    replace HH := hT.hart HH (by omega)
    replace LL := hT.lines LL (by omega)
    replace RR := HN
    clear hT HN
    refine W_nil ?_
    refine then_nrm ?_
    show Code.wp Try.prog _ _ _ _
    refine wp_ret ?_
    refine ret_hart (j := 8) (by kernel_rfl) hA rfl RR ?_
    refine ⟨congrArg (fun s : HS => Ending.returned (hartV s)) ?_, HB⟩
    unfold writeZ
    rw [hm]
    have e := eq_of_beq c44
    subst e
    refine Eq.trans ?_ (writeM_fld t v 26 (by omega)).symm
    refine congrArg (t.put 63) ?_
    refine Eq.trans ?_ (putZ_oth 26 (by decide) (t.n 63) v).symm
    rfl
  refine W_test hA rfl (by decide) (by decide) rfl rfl (fun c45 a hA => ?_) (fun c45 a hA => ?_)
  · skip
    refine wp_region_list ?_
    refine W_val hA rfl 286 rfl (by decide) _ _ (R_mov hA rfl rfl _) (fun a hA => ?_)
    refine W_val hA rfl 287 rfl (by decide) _ _ (R_fa hA rfl rfl (fun w => fa_hart _ 33 64 (by decide) rfl w) _) (fun a hA => ?_)
    refine W_stU hA rfl rfl rfl rfl rfl HH (by decide) (by decide) (fun w119 hT HN => ?_)
    replace HB := HB.trans (hT.bel _ gHH)
    replace LL := hT.lines LL (by omega)
    replace RR := hT.hart RR (by omega)
    replace HH := HN
    clear hT HN
    refine W_nil ?_
    refine blk_nrm ?_
    refine then_nrm ?_
    show Code.wp Try.prog _ _ _ _
    refine wp_seq ?_
    refine wp_region_list ?_
    refine W_val hA rfl 324 rfl (by decide) _ _ (R_row hA rfl rfl HH Try.underlying25 (size_hart.trans (by rw [varr_size]))) (fun a hA => ?_)
    refine W_cpH hA rfl rfl rfl rfl rfl RR (fun w120 hT HN => ?_)
    replace HB := HB.trans (hT.bel _ gRR)
    replace HH := hT.hart HH (by omega)
    replace LL := hT.lines LL (by omega)
    replace RR := HN
    clear hT HN
    refine W_nil ?_
    refine then_nrm ?_
    show Code.wp Try.prog _ _ _ _
    refine wp_ret ?_
    refine ret_hart (j := 8) (by kernel_rfl) hA rfl RR ?_
    refine ⟨congrArg (fun s : HS => Ending.returned (hartV s)) ?_, HB⟩
    unfold writeZ
    rw [hm]
    have e := eq_of_beq c45
    subst e
    refine Eq.trans ?_ (writeM_fld t v 27 (by omega)).symm
    refine congrArg (t.put 64) ?_
    refine Eq.trans ?_ (putZ_oth 27 (by decide) (t.n 64) v).symm
    exact (merge_all _ hv).symm
  refine W_test hA rfl (by decide) (by decide) rfl rfl (fun c46 a hA => ?_) (fun c46 a hA => ?_)
  · skip
    refine wp_region_list ?_
    refine W_val hA rfl 290 rfl (by decide) _ _ (R_fa hA rfl rfl (fun w => fa_hart _ 30 61 (by decide) rfl w) _) (fun a hA => ?_)
    refine W_val hA rfl 291 rfl (by decide) _ _ (R_ld hA rfl rfl ag_u64 (HH.u 61 (by decide) (by decide))) (fun a hA => ?_)
    refine W_val hA rfl 292 rfl (by decide) _ _ (R_mov hA rfl rfl _) (fun a hA => ?_)
    refine W_call3 hA (by decide) (fun _ _ => by kernel_rfl) rfl rfl rfl (dput_any _ _ _ (by first | exact ok.n _ | exact HOk.n HO _) (by first | exact and_in _ _ | (unfold In64; decide) | exact In64.lit (by decide)) (by first | exact hv | exact wrap_in _) _) (fun w121 hw a hA => ?_)
    subst hw
    refine W_val hA rfl 294 rfl (by decide) _ _ (R_fa hA rfl rfl (fun w => fa_hart _ 30 61 (by decide) rfl w) _) (fun a hA => ?_)
    refine W_stU hA rfl rfl rfl rfl rfl HH (by decide) (by decide) (fun w122 hT HN => ?_)
    replace HB := HB.trans (hT.bel _ gHH)
    replace LL := hT.lines LL (by omega)
    replace RR := hT.hart RR (by omega)
    replace HH := HN
    clear hT HN
    refine W_nil ?_
    refine blk_nrm ?_
    refine then_nrm ?_
    show Code.wp Try.prog _ _ _ _
    refine wp_seq ?_
    refine wp_region_list ?_
    refine W_val hA rfl 324 rfl (by decide) _ _ (R_row hA rfl rfl HH Try.underlying25 (size_hart.trans (by rw [varr_size]))) (fun a hA => ?_)
    refine W_cpH hA rfl rfl rfl rfl rfl RR (fun w123 hT HN => ?_)
    replace HB := HB.trans (hT.bel _ gRR)
    replace HH := hT.hart HH (by omega)
    replace LL := hT.lines LL (by omega)
    replace RR := HN
    clear hT HN
    refine W_nil ?_
    refine then_nrm ?_
    show Code.wp Try.prog _ _ _ _
    refine wp_ret ?_
    refine ret_hart (j := 8) (by kernel_rfl) hA rfl RR ?_
    refine ⟨congrArg (fun s : HS => Ending.returned (hartV s)) ?_, HB⟩
    unfold writeZ
    rw [hm]
    have e := eq_of_beq c46
    subst e
    rfl
  refine W_test hA rfl (by decide) (by decide) rfl rfl (fun c47 a hA => ?_) (fun c47 a hA => ?_)
  · skip
    refine wp_region_list ?_
    refine W_val hA rfl 297 rfl (by decide) _ _ (R_fa hA rfl rfl (fun w => fa_hart _ 30 61 (by decide) rfl w) _) (fun a hA => ?_)
    refine W_val hA rfl 298 rfl (by decide) _ _ (R_ld hA rfl rfl ag_u64 (HH.u 61 (by decide) (by decide))) (fun a hA => ?_)
    refine W_val hA rfl 299 rfl (by decide) _ _ (R_mov hA rfl rfl _) (fun a hA => ?_)
    refine W_call3 hA (by decide) (fun _ _ => by kernel_rfl) rfl rfl rfl (dput_any _ _ _ (by first | exact ok.n _ | exact HOk.n HO _) (by first | exact and_in _ _ | (unfold In64; decide) | exact In64.lit (by decide)) (by first | exact hv | exact wrap_in _) _) (fun w124 hw a hA => ?_)
    subst hw
    refine W_val hA rfl 301 rfl (by decide) _ _ (R_fa hA rfl rfl (fun w => fa_hart _ 30 61 (by decide) rfl w) _) (fun a hA => ?_)
    refine W_stU hA rfl rfl rfl rfl rfl HH (by decide) (by decide) (fun w125 hT HN => ?_)
    replace HB := HB.trans (hT.bel _ gHH)
    replace LL := hT.lines LL (by omega)
    replace RR := hT.hart RR (by omega)
    replace HH := HN
    clear hT HN
    refine W_nil ?_
    refine blk_nrm ?_
    refine then_nrm ?_
    show Code.wp Try.prog _ _ _ _
    refine wp_seq ?_
    refine wp_region_list ?_
    refine W_val hA rfl 324 rfl (by decide) _ _ (R_row hA rfl rfl HH Try.underlying25 (size_hart.trans (by rw [varr_size]))) (fun a hA => ?_)
    refine W_cpH hA rfl rfl rfl rfl rfl RR (fun w126 hT HN => ?_)
    replace HB := HB.trans (hT.bel _ gRR)
    replace HH := hT.hart HH (by omega)
    replace LL := hT.lines LL (by omega)
    replace RR := HN
    clear hT HN
    refine W_nil ?_
    refine then_nrm ?_
    show Code.wp Try.prog _ _ _ _
    refine wp_ret ?_
    refine ret_hart (j := 8) (by kernel_rfl) hA rfl RR ?_
    refine ⟨congrArg (fun s : HS => Ending.returned (hartV s)) ?_, HB⟩
    unfold writeZ
    rw [hm]
    have e := eq_of_beq c47
    subst e
    refine Eq.trans ?_ (writeM_fld t v 24 (by omega)).symm
    refine congrArg (t.put 61) ?_
    refine Eq.trans ?_ (putZ_oth 24 (by decide) (t.n 61) v).symm
    rfl
  refine W_test hA rfl (by decide) (by decide) rfl rfl (fun c48 a hA => ?_) (fun c48 a hA => ?_)
  · skip
    refine wp_region_list ?_
    refine W_val hA rfl 304 rfl (by decide) _ _ (R_mov hA rfl rfl _) (fun a hA => ?_)
    refine W_val hA rfl 305 rfl (by decide) _ _ (R_fa hA rfl rfl (fun w => fa_hart _ 34 65 (by decide) rfl w) _) (fun a hA => ?_)
    refine W_stU hA rfl rfl rfl rfl rfl HH (by decide) (by decide) (fun w127 hT HN => ?_)
    replace HB := HB.trans (hT.bel _ gHH)
    replace LL := hT.lines LL (by omega)
    replace RR := hT.hart RR (by omega)
    replace HH := HN
    clear hT HN
    refine W_nil ?_
    refine blk_nrm ?_
    refine then_nrm ?_
    show Code.wp Try.prog _ _ _ _
    refine wp_seq ?_
    refine wp_region_list ?_
    refine W_val hA rfl 324 rfl (by decide) _ _ (R_row hA rfl rfl HH Try.underlying25 (size_hart.trans (by rw [varr_size]))) (fun a hA => ?_)
    refine W_cpH hA rfl rfl rfl rfl rfl RR (fun w128 hT HN => ?_)
    replace HB := HB.trans (hT.bel _ gRR)
    replace HH := hT.hart HH (by omega)
    replace LL := hT.lines LL (by omega)
    replace RR := HN
    clear hT HN
    refine W_nil ?_
    refine then_nrm ?_
    show Code.wp Try.prog _ _ _ _
    refine wp_ret ?_
    refine ret_hart (j := 8) (by kernel_rfl) hA rfl RR ?_
    refine ⟨congrArg (fun s : HS => Ending.returned (hartV s)) ?_, HB⟩
    unfold writeZ
    rw [hm]
    have e := eq_of_beq c48
    subst e
    refine Eq.trans ?_ (writeM_fld t v 28 (by omega)).symm
    refine congrArg (t.put 65) ?_
    refine Eq.trans ?_ (putZ_oth 28 (by decide) (t.n 65) v).symm
    exact (merge_all _ hv).symm
  refine W_test hA rfl (by decide) (by decide) rfl rfl (fun c49 a hA => ?_) (fun c49 a hA => ?_)
  · skip
    refine wp_seq ?_
    refine wp_region_list ?_
    refine W_val hA rfl 308 rfl (by decide) _ _ (R_mov hA rfl rfl _) (fun a hA => ?_)
    refine W_call1 hA (by decide) (fun _ _ => by kernel_rfl) rfl (dmode_any _ hv.1 _) (fun w129 hw a hA => ?_)
    subst hw
    refine W_nil ?_
    refine then_nrm ?_
    show Code.wp Try.prog _ _ _ _
    refine wp_cond_split (hA.ev (x := .tmp 309) rfl) (fun c50 => ?_) (fun c50 => ?_)
    · skip
      refine still_tail 6 (by kernel_rfl) (fun w4 hw => ?_)
      replace HB := HB.trans (hw.mono HB.size)
      replace HH := HH.below hw
      replace LL := LL.below hw
      replace RR := RR.below hw
      clear hw
      refine S_val hA rfl 310 rfl (by decide) _ (R_fa hA rfl rfl (fun w => fa_hart _ 35 66 (by decide) rfl w) _) (fun a hA => ?_)
      refine S_val hA rfl 311 rfl (by decide) _ (R_ld hA rfl rfl ag_u64 (HH.u 66 (by decide) (by decide))) (fun a hA => ?_)
      refine S_call hA (by decide) (fun _ _ => by kernel_rfl) (args1 hA rfl) (dbut_any _ 17582052945254416380 (by kernel_rfl) _) (fun a hA => ?_)
      refine S_val hA rfl 313 rfl (by decide) _ (R_mov hA rfl rfl _) (fun a hA => ?_)
      refine S_call hA (by decide) (fun _ _ => by kernel_rfl) (args3 hA rfl rfl rfl) (dput_any _ _ _ (by first | exact ok.n _ | exact HOk.n HO _) (by first | exact and_in _ _ | (unfold In64; decide) | exact In64.lit (by decide)) (by first | exact hv | exact wrap_in _) _) (fun a hA => ?_)
      refine S_val hA rfl 315 rfl (by decide) _ (R_fa hA rfl rfl (fun w => fa_hart _ 35 66 (by decide) rfl w) _) (fun a hA => ?_)
      refine still_nil ?_
      refine W_stU hA rfl rfl rfl rfl rfl HH (by decide) (by decide) (fun w130 hT HN => ?_)
      replace HB := HB.trans (hT.bel _ gHH)
      replace LL := hT.lines LL (by omega)
      replace RR := hT.hart RR (by omega)
      replace HH := HN
      clear hT HN
      refine W_nil ?_
      refine blk_nrm ?_
      refine then_nrm ?_
      show Code.wp Try.prog _ _ _ _
      refine wp_seq ?_
      refine wp_region_list ?_
      refine W_val hA rfl 324 rfl (by decide) _ _ (R_row hA rfl rfl HH Try.underlying25 (size_hart.trans (by rw [varr_size]))) (fun a hA => ?_)
      refine W_cpH hA rfl rfl rfl rfl rfl RR (fun w131 hT HN => ?_)
      replace HB := HB.trans (hT.bel _ gRR)
      replace HH := hT.hart HH (by omega)
      replace LL := hT.lines LL (by omega)
      replace RR := HN
      clear hT HN
      refine W_nil ?_
      refine then_nrm ?_
      show Code.wp Try.prog _ _ _ _
      refine wp_ret ?_
      refine ret_hart (j := 8) (by kernel_rfl) hA rfl RR ?_
      refine ⟨congrArg (fun s : HS => Ending.returned (hartV s)) ?_, HB⟩
      unfold writeZ
      rw [hm]
      have e := eq_of_beq c49
      subst e
      have hq : noTabB v = false := by simpa using c50
      refine Eq.trans ?_ (writeM_fld t v 29 (by omega)).symm
      refine congrArg (t.put 66) ?_
      refine Eq.trans ?_ (putZ_tab 29 (by decide) (t.n 66) v hq).symm
      rfl
    refine wp_skip ?_
    refine blk_nrm ?_
    refine then_nrm ?_
    show Code.wp Try.prog _ _ _ _
    refine wp_seq ?_
    refine wp_region_list ?_
    refine W_val hA rfl 324 rfl (by decide) _ _ (R_row hA rfl rfl HH Try.underlying25 (size_hart.trans (by rw [varr_size]))) (fun a hA => ?_)
    refine W_cpH hA rfl rfl rfl rfl rfl RR (fun w132 hT HN => ?_)
    replace HB := HB.trans (hT.bel _ gRR)
    replace HH := hT.hart HH (by omega)
    replace LL := hT.lines LL (by omega)
    replace RR := HN
    clear hT HN
    refine W_nil ?_
    refine then_nrm ?_
    show Code.wp Try.prog _ _ _ _
    refine wp_ret ?_
    refine ret_hart (j := 8) (by kernel_rfl) hA rfl RR ?_
    refine ⟨congrArg (fun s : HS => Ending.returned (hartV s)) ?_, HB⟩
    unfold writeZ
    rw [hm]
    have e := eq_of_beq c49
    subst e
    have hq : noTabB v = true := by simpa using c50
    refine Eq.trans ?_ (writeM_fld t v 29 (by omega)).symm
    rw [putZ_no 29 (by decide) _ v hq, HS.put_self]
  refine W_test hA rfl (by decide) (by decide) rfl rfl (fun c51 a hA => ?_) (fun c51 a hA => ?_)
  · skip
    refine wp_region_list ?_
    refine W_val hA rfl 318 rfl (by decide) _ _ (R_mov hA rfl rfl _) (fun a hA => ?_)
    refine W_val hA rfl 319 rfl (by decide) _ _ (R_fa hA rfl rfl (fun w => fa_hart _ 44 75 (by decide) rfl w) _) (fun a hA => ?_)
    refine W_stU hA rfl rfl rfl rfl rfl HH (by decide) (by decide) (fun w133 hT HN => ?_)
    replace HB := HB.trans (hT.bel _ gHH)
    replace LL := hT.lines LL (by omega)
    replace RR := hT.hart RR (by omega)
    replace HH := HN
    clear hT HN
    refine W_nil ?_
    refine blk_nrm ?_
    refine then_nrm ?_
    show Code.wp Try.prog _ _ _ _
    refine wp_seq ?_
    refine wp_region_list ?_
    refine W_val hA rfl 324 rfl (by decide) _ _ (R_row hA rfl rfl HH Try.underlying25 (size_hart.trans (by rw [varr_size]))) (fun a hA => ?_)
    refine W_cpH hA rfl rfl rfl rfl rfl RR (fun w134 hT HN => ?_)
    replace HB := HB.trans (hT.bel _ gRR)
    replace HH := hT.hart HH (by omega)
    replace LL := hT.lines LL (by omega)
    replace RR := HN
    clear hT HN
    refine W_nil ?_
    refine then_nrm ?_
    show Code.wp Try.prog _ _ _ _
    refine wp_ret ?_
    refine ret_hart (j := 8) (by kernel_rfl) hA rfl RR ?_
    refine ⟨congrArg (fun s : HS => Ending.returned (hartV s)) ?_, HB⟩
    unfold writeZ
    rw [hm]
    have e := eq_of_beq c51
    subst e
    refine Eq.trans ?_ (writeM_fld t v 12 (by omega)).symm
    refine congrArg (t.put 75) ?_
    refine Eq.trans ?_ (putZ_oth 12 (by decide) (t.n 75) v).symm
    exact (merge_all _ hv).symm
  refine W_test hA rfl (by decide) (by decide) rfl rfl (fun c52 a hA => ?_) (fun c52 a hA => ?_)
  · skip
    refine wp_region_list ?_
    refine W_val hA rfl 322 rfl (by decide) _ _ (R_mov hA rfl rfl _) (fun a hA => ?_)
    refine W_val hA rfl 323 rfl (by decide) _ _ (R_fa hA rfl rfl (fun w => fa_hart _ 45 76 (by decide) rfl w) _) (fun a hA => ?_)
    refine W_stU hA rfl rfl rfl rfl rfl HH (by decide) (by decide) (fun w135 hT HN => ?_)
    replace HB := HB.trans (hT.bel _ gHH)
    replace LL := hT.lines LL (by omega)
    replace RR := hT.hart RR (by omega)
    replace HH := HN
    clear hT HN
    refine W_nil ?_
    refine blk_nrm ?_
    refine then_nrm ?_
    show Code.wp Try.prog _ _ _ _
    refine wp_seq ?_
    refine wp_region_list ?_
    refine W_val hA rfl 324 rfl (by decide) _ _ (R_row hA rfl rfl HH Try.underlying25 (size_hart.trans (by rw [varr_size]))) (fun a hA => ?_)
    refine W_cpH hA rfl rfl rfl rfl rfl RR (fun w136 hT HN => ?_)
    replace HB := HB.trans (hT.bel _ gRR)
    replace HH := hT.hart HH (by omega)
    replace LL := hT.lines LL (by omega)
    replace RR := HN
    clear hT HN
    refine W_nil ?_
    refine then_nrm ?_
    show Code.wp Try.prog _ _ _ _
    refine wp_ret ?_
    refine ret_hart (j := 8) (by kernel_rfl) hA rfl RR ?_
    refine ⟨congrArg (fun s : HS => Ending.returned (hartV s)) ?_, HB⟩
    unfold writeZ
    rw [hm]
    have e := eq_of_beq c52
    subst e
    refine Eq.trans ?_ (writeM_fld t v 13 (by omega)).symm
    refine congrArg (t.put 76) ?_
    refine Eq.trans ?_ (putZ_oth 13 (by decide) (t.n 76) v).symm
    exact (merge_all _ hv).symm
  refine wp_skip ?_
  refine blk_nrm ?_
  refine then_nrm ?_
  show Code.wp Try.prog _ _ _ _
  refine wp_seq ?_
  refine wp_region_list ?_
  refine W_val hA rfl 324 rfl (by decide) _ _ (R_row hA rfl rfl HH Try.underlying25 (size_hart.trans (by rw [varr_size]))) (fun a hA => ?_)
  refine W_cpH hA rfl rfl rfl rfl rfl RR (fun w137 hT HN => ?_)
  replace HB := HB.trans (hT.bel _ gRR)
  replace HH := hT.hart HH (by omega)
  replace LL := hT.lines LL (by omega)
  replace RR := HN
  clear hT HN
  refine W_nil ?_
  refine then_nrm ?_
  show Code.wp Try.prog _ _ _ _
  refine wp_ret ?_
  refine ret_hart (j := 8) (by kernel_rfl) hA rfl RR ?_
  refine ⟨congrArg (fun s : HS => Ending.returned (hartV s)) ?_, HB⟩
  unfold writeZ
  rw [hm]
  have dc1 : ¬ m = 256 := beq_eq_false_iff_ne.1 c1
  have dc2 : ¬ m = 260 := beq_eq_false_iff_ne.1 c2
  have dc3 : ¬ m = 261 := beq_eq_false_iff_ne.1 c3
  have dc4 : ¬ m = 262 := beq_eq_false_iff_ne.1 c4
  have dc5 : ¬ m = 320 := beq_eq_false_iff_ne.1 c5
  have dc6 : ¬ m = 321 := beq_eq_false_iff_ne.1 c6
  have dc7 : ¬ m = 322 := beq_eq_false_iff_ne.1 c7
  have dc8 : ¬ m = 323 := beq_eq_false_iff_ne.1 c8
  have dc9 : ¬ m = 324 := beq_eq_false_iff_ne.1 c9
  have dc10 : ¬ m = 384 := beq_eq_false_iff_ne.1 c10
  have dc12 : ¬ m = 512 := beq_eq_false_iff_ne.1 c12
  have dc13 : ¬ m = 516 := beq_eq_false_iff_ne.1 c13
  have dc14 : ¬ m = 517 := beq_eq_false_iff_ne.1 c14
  have dc15 : ¬ m = 576 := beq_eq_false_iff_ne.1 c15
  have dc16 : ¬ m = 577 := beq_eq_false_iff_ne.1 c16
  have dc17 : ¬ m = 578 := beq_eq_false_iff_ne.1 c17
  have dc18 : ¬ m = 579 := beq_eq_false_iff_ne.1 c18
  have dc19 : ¬ m = 580 := beq_eq_false_iff_ne.1 c19
  have dc20 : ¬ m = 640 := beq_eq_false_iff_ne.1 c20
  have dc22 : ¬ m = 768 := beq_eq_false_iff_ne.1 c22
  have dc26 : ¬ m = 770 := beq_eq_false_iff_ne.1 c26
  have dc27 : ¬ m = 771 := beq_eq_false_iff_ne.1 c27
  have dc28 : ¬ m = 772 := beq_eq_false_iff_ne.1 c28
  have dc29 : ¬ m = 773 := beq_eq_false_iff_ne.1 c29
  have dc30 : ¬ m = 774 := beq_eq_false_iff_ne.1 c30
  have dc31 : ¬ m = 832 := beq_eq_false_iff_ne.1 c31
  have dc32 : ¬ m = 833 := beq_eq_false_iff_ne.1 c32
  have dc33 : ¬ m = 834 := beq_eq_false_iff_ne.1 c33
  have dc34 : ¬ m = 835 := beq_eq_false_iff_ne.1 c34
  have dc35 : ¬ m = 836 := beq_eq_false_iff_ne.1 c35
  have dc36 : ¬ m = 842 := beq_eq_false_iff_ne.1 c36
  have dc37 : ¬ m = 843 := beq_eq_false_iff_ne.1 c37
  have dc38 : ¬ m = 1536 := beq_eq_false_iff_ne.1 c38
  have dc39 : ¬ m = 1538 := beq_eq_false_iff_ne.1 c39
  have dc40 : ¬ m = 1539 := beq_eq_false_iff_ne.1 c40
  have dc41 : ¬ m = 1540 := beq_eq_false_iff_ne.1 c41
  have dc42 : ¬ m = 1541 := beq_eq_false_iff_ne.1 c42
  have dc43 : ¬ m = 1542 := beq_eq_false_iff_ne.1 c43
  have dc44 : ¬ m = 1543 := beq_eq_false_iff_ne.1 c44
  have dc45 : ¬ m = 1603 := beq_eq_false_iff_ne.1 c45
  have dc46 : ¬ m = 1604 := beq_eq_false_iff_ne.1 c46
  have dc47 : ¬ m = 1605 := beq_eq_false_iff_ne.1 c47
  have dc48 : ¬ m = 1610 := beq_eq_false_iff_ne.1 c48
  have dc49 : ¬ m = 1664 := beq_eq_false_iff_ne.1 c49
  have dc51 : ¬ m = 2816 := beq_eq_false_iff_ne.1 c51
  have dc52 : ¬ m = 2818 := beq_eq_false_iff_ne.1 c52
  exact (writeM_none t v ⟨dc1, dc2, dc3, dc4, dc5, dc6, dc7, dc8, dc9, dc10, dc12, dc13, dc14, dc15, dc16, dc17, dc18, dc19, dc20, dc22, dc26, dc27, dc28, dc29, dc30, dc31, dc32, dc33, dc34, dc35, dc36, dc37, dc38, dc39, dc40, dc41, dc42, dc43, dc44, dc45, dc46, dc47, dc48, dc49, dc51, dc52, trivial⟩).symm
end Go.Proofs.Ytiblfdgmleckiaa
