/- Layer 14: who comes back: Mret and Sret, the program's and the document's (written by gen_trd.py by walkf.py). -/
import Derived.Test.YtkfhpmleelmcfaaTrD
namespace Go.Proofs.Ytkfhpmleelmcfaa
open Go.RowKit
set_option linter.unusedVariables false
set_option maxRecDepth 100000

theorem mpp_u8 (s : Int) (hs : In64 s) : IntKind.u8.wrap (bits .and .u64 s 6144 / 2 ^ 11) = (mppZ s : Int) := by
  have e1 := has_bit (and_in s 6144) 11
  have e2 := has_bit (and_in s 6144) 12
  have hb : ∀ i, i < 64 → bitZ (bits .and .u64 s 6144) i = (bitZ s i && (decide (i = 11) || decide (i = 12))) := fun i hi => by
    unfold bitZ
    rw [bits_and, V_U, BitVec.getLsbD_and, (by decide : ∀ i, i < 64 → (V 6144).getLsbD i = (decide (i = 11) || decide (i = 12))) i hi]
  have hx : In64 (bits .and .u64 s 6144) := and_in _ _
  have hv : ((mppZ s : Nat) : Int) * 2 ^ 11 = bits .and .u64 s 6144 := by
    have hm := mpp_lt s
    have hi : In64 (((mppZ s : Nat) : Int) * 2 ^ 11) := by unfold In64; omega
    refine bits_ext hi hx fun i hi => ?_
    rw [hb i hi]
    unfold mppZ
    cases q1 : bitZ s 11 <;> cases q2 : bitZ s 12
    · have : ∀ i, i < 64 → bitZ (((((if false = true then 1 else 0) + (if false = true then 2 else 0) : Nat)) : Int) * 2 ^ 11) i = false := by decide +kernel
      rw [this i hi]
      by_cases h1 : i = 11
      · subst h1; simp [q1]
      · by_cases h2 : i = 12
        · subst h2; simp [q2]
        · simp [h1, h2]
    · have : ∀ i, i < 64 → bitZ (((((if false = true then 1 else 0) + (if true = true then 2 else 0) : Nat)) : Int) * 2 ^ 11) i = decide (i = 12) := by decide +kernel
      rw [this i hi]
      by_cases h1 : i = 11
      · subst h1; simp [q1]
      · by_cases h2 : i = 12
        · subst h2; simp [q2]
        · simp [h1, h2]
    · have : ∀ i, i < 64 → bitZ (((((if true = true then 1 else 0) + (if false = true then 2 else 0) : Nat)) : Int) * 2 ^ 11) i = decide (i = 11) := by decide +kernel
      rw [this i hi]
      by_cases h1 : i = 11
      · subst h1; simp [q1]
      · by_cases h2 : i = 12
        · subst h2; simp [q2]
        · simp [h1, h2]
    · have : ∀ i, i < 64 → bitZ (((((if true = true then 1 else 0) + (if true = true then 2 else 0) : Nat)) : Int) * 2 ^ 11) i = (decide (i = 11) || decide (i = 12)) := by decide +kernel
      rw [this i hi]
      by_cases h1 : i = 11
      · subst h1; simp [q1]
      · by_cases h2 : i = 12
        · subst h2; simp [q2]
        · simp [h1, h2]
  have hm := mpp_lt s
  rw [← hv, Int.mul_ediv_cancel _ (by decide)]
  simp [IntKind.wrap, IntKind.bits, IntKind.signed]
  omega
theorem and3 (x : Int) : bits .andNot .u64 x 549755820032 = withZ (withZ (withZ x 11 false) 12 false) 39 false := by
  refine bits_ext (andNot_in _ _) (with_in _ _ _) fun i hi => ?_
  rw [bit_with _ (by decide) hi, bit_with _ (by decide) hi, bit_with _ (by decide) hi]
  unfold bitZ
  rw [bits_andNot, V_U, BitVec.getLsbD_and, BitVec.getLsbD_not, decide_eq_true hi, Bool.true_and, (by decide +kernel : ∀ i, i < 64 → (V 549755820032).getLsbD i = (decide (i = 11) || decide (i = 12) || decide (i = 39))) i hi]
  by_cases h1 : i = 39
  · subst h1; simp
  · by_cases h2 : i = 12
    · subst h2; simp
    · by_cases h3 : i = 11
      · subst h3; simp
      · simp [h1, h2, h3]
set_option maxHeartbeats 8000000 in
theorem mret_any (t : HS) (ok : HOk t) (w : World) : Calls Try.prog 13 #[hartV t] w fun e w' => e = .returned (hartV (mretZ t)) ∧ Below w.heap.size w w' := by
  have HB := Below.refl w.heap.size w
  go_enter Try.func13, Try.ntmps13
  refine begin_fr [(0, hartV t)] 39 ?_ (fun a hA => ?_)
  · exact FrA.add (FrA.nil (by rfl) (by rfl)) 0 _ (by rfl)
  refine wp_seq ?_
  refine wp_region_list ?_
  refine W_boxH hA rfl 1 rfl (by decide) rfl rfl (fun w1 bHH a hA hb HH gHH => ?_)
  replace gHH := Nat.le_trans HB.size gHH
  replace HB := HB.trans (hb.mono HB.size)
  clear hb
  refine W_allocH hA rfl 2 rfl (by decide) rfl (fun w2 bA2 a hA hb A2 gA2 => ?_)
  have nHHA2 : bHH < bA2 := by have := HH.lt; omega
  replace gA2 := Nat.le_trans HB.size gA2
  replace HB := HB.trans (hb.mono HB.size)
  replace HH := HH.below hb
  clear hb
  refine W_nil ?_
  refine then_nrm ?_
  show Code.wp Try.prog _ _ _ _
  refine wp_seq ?_
  refine wp_region_list ?_
  refine W_val hA rfl 4 rfl (by decide) _ _ (R_fa hA rfl rfl (fun w => fa_hart _ 7 38 (by decide) rfl w) _) (fun a hA => ?_)
  refine W_val hA rfl 5 rfl (by decide) _ _ (R_ld (v := .int .u64 (t.n 38)) hA rfl rfl ag_u64 (HH.u 38 (by decide) (by decide))) (fun a hA => ?_)
  refine W_val hA rfl 6 rfl (by decide) _ _ (R_and hA rfl rfl rfl _) (fun a hA => ?_)
  refine W_val hA rfl 7 rfl (by decide) _ _ (R_shrN hA rfl 11 rfl (by first | exact (and_in _ _).1 | exact h0) (by decide) rfl _) (fun a hA => ?_)
  refine W_val hA rfl 8 rfl (by decide) _ _ (R_cvUB hA rfl rfl (mppZ (t.n 38) : Int) (mpp_u8 _ (ok.n 38)) _) (fun a hA => ?_)
  refine W_val hA rfl 3 rfl (by decide) _ _ (R_asg hA rfl rfl _) (fun a hA => ?_)
  refine W_nil ?_
  refine then_nrm ?_
  show Code.wp Try.prog _ _ _ _
  refine wp_seq ?_
  refine wp_region_list ?_
  refine W_val hA rfl 9 rfl (by decide) _ _ (R_fa hA rfl rfl (fun w => fa_hart _ 15 46 (by decide) rfl w) _) (fun a hA => ?_)
  refine W_val hA rfl 10 rfl (by decide) _ _ (R_ld (v := .int .u64 (t.n 46)) hA rfl rfl ag_u64 (HH.u 46 (by decide) (by decide))) (fun a hA => ?_)
  refine W_val hA rfl 11 rfl (by decide) _ _ (R_mov hA rfl rfl _) (fun a hA => ?_)
  refine W_val hA rfl 12 rfl (by decide) _ _ (R_fa hA rfl rfl (fun w => fa_hart _ 7 38 (by decide) rfl w) _) (fun a hA => ?_)
  refine W_val hA rfl 13 rfl (by decide) _ _ (R_ld (v := .int .u64 (t.n 38)) hA rfl rfl ag_u64 (HH.u 38 (by decide) (by decide))) (fun a hA => ?_)
  refine W_val hA rfl 14 rfl (by decide) _ _ (R_and hA rfl rfl rfl _) (fun a hA => ?_)
  refine W_val hA rfl 15 rfl (by decide) _ _ (R_neqUT hA rfl rfl rfl (bitZ (t.n 38) 39) (ne_bit _ _ 39 (by decide) (by decide)) _) (fun a hA => ?_)
  refine W_val hA rfl 16 rfl (by decide) _ _ (R_fa hA rfl rfl (fun w => fa_hart _ 0 0 (by decide) rfl w) _) (fun a hA => ?_)
  refine W_stU hA rfl rfl rfl rfl rfl HH (by decide) (by decide) (fun w3 hT HN => ?_)
  replace HB := HB.trans (hT.bel _ gHH)
  replace A2 := hT.hart A2 (by omega)
  replace HH := HN
  clear hT HN
  refine W_val hA rfl 17 rfl (by decide) _ _ (R_fa hA rfl rfl (fun w => fa_hart _ 2 33 (by decide) rfl w) _) (fun a hA => ?_)
  refine W_stP hA rfl rfl rfl rfl rfl HH (fun w4 hT HN => ?_)
  replace HB := HB.trans (hT.bel _ gHH)
  replace A2 := hT.hart A2 (by omega)
  replace HH := HN
  clear hT HN
  refine W_val hA rfl 18 rfl (by decide) _ _ (R_fa hA rfl rfl (fun w => fa_hart _ 3 34 (by decide) rfl w) _) (fun a hA => ?_)
  refine W_stV hA rfl rfl rfl rfl rfl HH (fun w5 hT HN => ?_)
  replace HB := HB.trans (hT.bel _ gHH)
  replace A2 := hT.hart A2 (by omega)
  replace HH := HN
  clear hT HN
  refine W_nil ?_
  refine then_nrm ?_
  show Code.wp Try.prog _ _ _ _
  refine wp_seq ?_
  refine wp_seq ?_
  refine wp_region_list ?_
  refine W_val hA rfl 19 rfl (by decide) _ _ (R_mov hA rfl rfl _) (fun a hA => ?_)
  refine W_nil ?_
  refine then_nrm ?_
  show Code.wp Try.prog _ _ _ _
  refine wp_block ?_
  refine wp_seq ?_
  refine wp_region_list ?_
  refine W_val hA rfl 21 rfl (by decide) _ _ (R_eqlB hA rfl rfl rfl _) (fun a hA => ?_)
  refine W_val hA rfl 20 rfl (by decide) _ _ (R_asg hA rfl rfl _) (fun a hA => ?_)
  refine W_nil ?_
  refine then_nrm ?_
  show Code.wp Try.prog _ _ _ _
  refine wp_cond_split (hA.ev (x := .tmp 20) rfl) (fun c1 => ?_) (fun c1 => ?_)
  · skip
    refine wp_region_list ?_
    refine W_val hA rfl 22 rfl (by decide) _ _ (R_fa hA rfl rfl (fun w => fa_hart _ 3 34 (by decide) rfl w) _) (fun a hA => ?_)
    refine W_stV hA rfl rfl rfl rfl rfl HH (fun w6 hT HN => ?_)
    replace HB := HB.trans (hT.bel _ gHH)
    replace A2 := hT.hart A2 (by omega)
    replace HH := HN
    clear hT HN
    refine W_nil ?_
    refine blk_nrm ?_
    refine then_nrm ?_
    show Code.wp Try.prog _ _ _ _
    refine wp_seq ?_
    refine wp_region_list ?_
    refine W_val hA rfl 26 rfl (by decide) _ _ (R_fa hA rfl rfl (fun w => fa_hart _ 7 38 (by decide) rfl w) _) (fun a hA => ?_)
    refine W_val hA rfl 27 rfl (by decide) _ _ (R_ld (v := .int .u64 (t.n 38)) hA rfl rfl ag_u64 (HH.u 38 (by decide) (by decide))) (fun a hA => ?_)
    refine W_callA hA (by decide) (fun _ _ => by kernel_rfl) (args3 hA rfl rfl rfl) (open_any _ 3 7 (by decide) (by decide) _ _ (by decide) (by decide) _) (fun w7 hw a hA => ?_)
    subst hw
    refine W_val hA rfl 29 rfl (by decide) _ _ (R_andNT hA rfl rfl rfl _ (and3 _) _) (fun a hA => ?_)
    refine W_val hA rfl 30 rfl (by decide) _ _ (R_fa hA rfl rfl (fun w => fa_hart _ 7 38 (by decide) rfl w) _) (fun a hA => ?_)
    refine W_stU hA rfl rfl rfl rfl rfl HH (by decide) (by decide) (fun w8 hT HN => ?_)
    replace HB := HB.trans (hT.bel _ gHH)
    replace A2 := hT.hart A2 (by omega)
    replace HH := HN
    clear hT HN
    refine W_nil ?_
    refine then_nrm ?_
    show Code.wp Try.prog _ _ _ _
    refine wp_seq ?_
    refine wp_seq ?_
    refine wp_region_list ?_
    refine W_val hA rfl 31 rfl (by decide) _ _ (R_mov hA rfl rfl _) (fun a hA => ?_)
    refine W_val hA rfl 32 rfl (by decide) _ _ (R_neqB hA rfl rfl rfl _) (fun a hA => ?_)
    refine W_nil ?_
    refine then_nrm ?_
    show Code.wp Try.prog _ _ _ _
    refine wp_cond_split (hA.ev (x := .tmp 32) rfl) (fun c2 => ?_) (fun c2 => ?_)
    · skip
      refine wp_region_list ?_
      refine W_val hA rfl 33 rfl (by decide) _ _ (R_fa hA rfl rfl (fun w => fa_hart _ 7 38 (by decide) rfl w) _) (fun a hA => ?_)
      refine W_val hA rfl 34 rfl (by decide) _ _ (R_ld (v := .int .u64 (withZ (withZ (withZ (withZ (withZ (t.n 38) 3 (bitZ (t.n 38) 7)) 7 true) 11 false) 12 false) 39 false)) hA rfl rfl ag_u64 (HH.u 38 (by decide) (by decide))) (fun a hA => ?_)
      refine W_val hA rfl 35 rfl (by decide) _ _ (R_andNT hA rfl rfl rfl (withZ (withZ (withZ (withZ (withZ (withZ (t.n 38) 3 (bitZ (t.n 38) 7)) 7 true) 11 false) 12 false) 39 false) 17 false) (andNot_with 17 (by decide)) _) (fun a hA => ?_)
      refine W_val hA rfl 36 rfl (by decide) _ _ (R_fa hA rfl rfl (fun w => fa_hart _ 7 38 (by decide) rfl w) _) (fun a hA => ?_)
      refine W_stU hA rfl rfl rfl rfl rfl HH (by decide) (by decide) (fun w9 hT HN => ?_)
      replace HB := HB.trans (hT.bel _ gHH)
      replace A2 := hT.hart A2 (by omega)
      replace HH := HN
      clear hT HN
      refine W_nil ?_
      refine then_nrm ?_
      show Code.wp Try.prog _ _ _ _
      refine wp_seq ?_
      refine wp_region_list ?_
      refine W_callA hA (by decide) (fun _ _ => by kernel_rfl) (args1 hA rfl) (letGo_any _ HH) (fun w10 hw a hA => ?_)
      obtain ⟨HN, hG⟩ := hw
      replace HB := HB.trans (hG.bel _ gHH)
      replace A2 := hG.hart A2 (by omega)
      replace HH := HN
      clear hG HN
      refine W_nil ?_
      refine then_nrm ?_
      show Code.wp Try.prog _ _ _ _
      refine wp_seq ?_
      refine wp_region_list ?_
      refine W_val hA rfl 38 rfl (by decide) _ _ (R_row hA rfl rfl HH Try.underlying25 (size_hart.trans (by rw [varr_size]))) (fun a hA => ?_)
      refine W_cpH hA rfl rfl rfl rfl rfl A2 (fun w11 hT HN => ?_)
      replace HB := HB.trans (hT.bel _ gA2)
      replace HH := hT.hart HH (by omega)
      replace A2 := HN
      clear hT HN
      refine W_nil ?_
      refine then_nrm ?_
      show Code.wp Try.prog _ _ _ _
      refine wp_ret ?_
      have em : mppZ (t.n 38) = 3 := by have := eq_of_beq c1; omega
      rw [em] at c2
      exact absurd c2 (by decide)
    refine wp_skip ?_
    refine then_nrm ?_
    show Code.wp Try.prog _ _ _ _
    refine wp_seq ?_
    refine wp_region_list ?_
    refine W_callA hA (by decide) (fun _ _ => by kernel_rfl) (args1 hA rfl) (letGo_any _ HH) (fun w12 hw a hA => ?_)
    obtain ⟨HN, hG⟩ := hw
    replace HB := HB.trans (hG.bel _ gHH)
    replace A2 := hG.hart A2 (by omega)
    replace HH := HN
    clear hG HN
    refine W_nil ?_
    refine then_nrm ?_
    show Code.wp Try.prog _ _ _ _
    refine wp_seq ?_
    refine wp_region_list ?_
    refine W_val hA rfl 38 rfl (by decide) _ _ (R_row hA rfl rfl HH Try.underlying25 (size_hart.trans (by rw [varr_size]))) (fun a hA => ?_)
    refine W_cpH hA rfl rfl rfl rfl rfl A2 (fun w13 hT HN => ?_)
    replace HB := HB.trans (hT.bel _ gA2)
    replace HH := hT.hart HH (by omega)
    replace A2 := HN
    clear hT HN
    refine W_nil ?_
    refine then_nrm ?_
    show Code.wp Try.prog _ _ _ _
    refine wp_ret ?_
    have em : mppZ (t.n 38) = 3 := by have := eq_of_beq c1; omega
    have e1 : stMr (t.n 38) = withZ (withZ (withZ (withZ (withZ (t.n 38) 3 (bitZ (t.n 38) 7)) 7 true) 11 false) 12 false) 39 false := by
      unfold stMr
      rw [em]
      rfl
    have e2 : privM (t.n 38) = (mppZ (t.n 38) : Int) := by
      unfold privM
      rw [em]
      rfl
    have e3 : vM (t.n 38) = false := by
      unfold vM
      rw [em]
      rfl
    refine ret_hart (j := 2) (by kernel_rfl) hA rfl A2 ⟨congrArg (fun q : HS => Ending.returned (hartV q)) ?_, HB⟩
    unfold mretZ
    rw [e1, e2, e3]
    refine HS.same (fun i => ?_) rfl rfl rfl
    by_cases h0 : i = 0
    · subst h0; rfl
    by_cases h33 : i = 33
    · subst h33; rfl
    by_cases h37 : i = 37
    · subst h37; rfl
    by_cases h38 : i = 38
    · subst h38; rfl
    simp only [mretZ, HS.put, HS.putV, HS.putW, HS.putH, HS.mode, h0, h33, h37, h38, if_false]
  refine wp_seq ?_
  refine wp_region_list ?_
  refine W_val hA rfl 24 rfl (by decide) _ _ (R_eqlB hA rfl rfl rfl _) (fun a hA => ?_)
  refine W_val hA rfl 23 rfl (by decide) _ _ (R_asg hA rfl rfl _) (fun a hA => ?_)
  refine W_nil ?_
  refine then_nrm ?_
  show Code.wp Try.prog _ _ _ _
  refine wp_cond_split (hA.ev (x := .tmp 23) rfl) (fun c3 => ?_) (fun c3 => ?_)
  · skip
    refine wp_region_list ?_
    refine W_val hA rfl 25 rfl (by decide) _ _ (R_fa hA rfl rfl (fun w => fa_hart _ 2 33 (by decide) rfl w) _) (fun a hA => ?_)
    refine W_stP hA rfl rfl rfl rfl rfl HH (fun w14 hT HN => ?_)
    replace HB := HB.trans (hT.bel _ gHH)
    replace A2 := hT.hart A2 (by omega)
    replace HH := HN
    clear hT HN
    refine W_nil ?_
    refine blk_nrm ?_
    refine then_nrm ?_
    show Code.wp Try.prog _ _ _ _
    refine wp_seq ?_
    refine wp_region_list ?_
    refine W_val hA rfl 26 rfl (by decide) _ _ (R_fa hA rfl rfl (fun w => fa_hart _ 7 38 (by decide) rfl w) _) (fun a hA => ?_)
    refine W_val hA rfl 27 rfl (by decide) _ _ (R_ld (v := .int .u64 (t.n 38)) hA rfl rfl ag_u64 (HH.u 38 (by decide) (by decide))) (fun a hA => ?_)
    refine W_callA hA (by decide) (fun _ _ => by kernel_rfl) (args3 hA rfl rfl rfl) (open_any _ 3 7 (by decide) (by decide) _ _ (by decide) (by decide) _) (fun w15 hw a hA => ?_)
    subst hw
    refine W_val hA rfl 29 rfl (by decide) _ _ (R_andNT hA rfl rfl rfl _ (and3 _) _) (fun a hA => ?_)
    refine W_val hA rfl 30 rfl (by decide) _ _ (R_fa hA rfl rfl (fun w => fa_hart _ 7 38 (by decide) rfl w) _) (fun a hA => ?_)
    refine W_stU hA rfl rfl rfl rfl rfl HH (by decide) (by decide) (fun w16 hT HN => ?_)
    replace HB := HB.trans (hT.bel _ gHH)
    replace A2 := hT.hart A2 (by omega)
    replace HH := HN
    clear hT HN
    refine W_nil ?_
    refine then_nrm ?_
    show Code.wp Try.prog _ _ _ _
    refine wp_seq ?_
    refine wp_seq ?_
    refine wp_region_list ?_
    refine W_val hA rfl 31 rfl (by decide) _ _ (R_mov hA rfl rfl _) (fun a hA => ?_)
    refine W_val hA rfl 32 rfl (by decide) _ _ (R_neqB hA rfl rfl rfl _) (fun a hA => ?_)
    refine W_nil ?_
    refine then_nrm ?_
    show Code.wp Try.prog _ _ _ _
    refine wp_cond_split (hA.ev (x := .tmp 32) rfl) (fun c4 => ?_) (fun c4 => ?_)
    · skip
      refine wp_region_list ?_
      refine W_val hA rfl 33 rfl (by decide) _ _ (R_fa hA rfl rfl (fun w => fa_hart _ 7 38 (by decide) rfl w) _) (fun a hA => ?_)
      refine W_val hA rfl 34 rfl (by decide) _ _ (R_ld (v := .int .u64 (withZ (withZ (withZ (withZ (withZ (t.n 38) 3 (bitZ (t.n 38) 7)) 7 true) 11 false) 12 false) 39 false)) hA rfl rfl ag_u64 (HH.u 38 (by decide) (by decide))) (fun a hA => ?_)
      refine W_val hA rfl 35 rfl (by decide) _ _ (R_andNT hA rfl rfl rfl (withZ (withZ (withZ (withZ (withZ (withZ (t.n 38) 3 (bitZ (t.n 38) 7)) 7 true) 11 false) 12 false) 39 false) 17 false) (andNot_with 17 (by decide)) _) (fun a hA => ?_)
      refine W_val hA rfl 36 rfl (by decide) _ _ (R_fa hA rfl rfl (fun w => fa_hart _ 7 38 (by decide) rfl w) _) (fun a hA => ?_)
      refine W_stU hA rfl rfl rfl rfl rfl HH (by decide) (by decide) (fun w17 hT HN => ?_)
      replace HB := HB.trans (hT.bel _ gHH)
      replace A2 := hT.hart A2 (by omega)
      replace HH := HN
      clear hT HN
      refine W_nil ?_
      refine then_nrm ?_
      show Code.wp Try.prog _ _ _ _
      refine wp_seq ?_
      refine wp_region_list ?_
      refine W_callA hA (by decide) (fun _ _ => by kernel_rfl) (args1 hA rfl) (letGo_any _ HH) (fun w18 hw a hA => ?_)
      obtain ⟨HN, hG⟩ := hw
      replace HB := HB.trans (hG.bel _ gHH)
      replace A2 := hG.hart A2 (by omega)
      replace HH := HN
      clear hG HN
      refine W_nil ?_
      refine then_nrm ?_
      show Code.wp Try.prog _ _ _ _
      refine wp_seq ?_
      refine wp_region_list ?_
      refine W_val hA rfl 38 rfl (by decide) _ _ (R_row hA rfl rfl HH Try.underlying25 (size_hart.trans (by rw [varr_size]))) (fun a hA => ?_)
      refine W_cpH hA rfl rfl rfl rfl rfl A2 (fun w19 hT HN => ?_)
      replace HB := HB.trans (hT.bel _ gA2)
      replace HH := hT.hart HH (by omega)
      replace A2 := HN
      clear hT HN
      refine W_nil ?_
      refine then_nrm ?_
      show Code.wp Try.prog _ _ _ _
      refine wp_ret ?_
      have e3 : ¬ mppZ (t.n 38) = 3 := fun e => by rw [e] at c1; exact absurd c1 (by decide)
      have em : mppZ (t.n 38) = 2 := by have := eq_of_beq c3; omega
      have e1 : stMr (t.n 38) = withZ (withZ (withZ (withZ (withZ (withZ (t.n 38) 3 (bitZ (t.n 38) 7)) 7 true) 11 false) 12 false) 39 false) 17 false := by
        unfold stMr
        rw [em]
        rfl
      have e2 : privM (t.n 38) = 0 := by
        unfold privM
        rw [em]
        rfl
      have e3 : vM (t.n 38) = bitZ (t.n 38) 39 := by
        unfold vM
        rw [em]
        rfl
      refine ret_hart (j := 2) (by kernel_rfl) hA rfl A2 ⟨congrArg (fun q : HS => Ending.returned (hartV q)) ?_, HB⟩
      unfold mretZ
      rw [e1, e2, e3]
      refine HS.same (fun i => ?_) rfl rfl rfl
      by_cases h0 : i = 0
      · subst h0; rfl
      by_cases h33 : i = 33
      · subst h33; rfl
      by_cases h37 : i = 37
      · subst h37; rfl
      by_cases h38 : i = 38
      · subst h38; rfl
      simp only [mretZ, HS.put, HS.putV, HS.putW, HS.putH, HS.mode, h0, h33, h37, h38, if_false]
    refine wp_skip ?_
    refine then_nrm ?_
    show Code.wp Try.prog _ _ _ _
    refine wp_seq ?_
    refine wp_region_list ?_
    refine W_callA hA (by decide) (fun _ _ => by kernel_rfl) (args1 hA rfl) (letGo_any _ HH) (fun w20 hw a hA => ?_)
    obtain ⟨HN, hG⟩ := hw
    replace HB := HB.trans (hG.bel _ gHH)
    replace A2 := hG.hart A2 (by omega)
    replace HH := HN
    clear hG HN
    refine W_nil ?_
    refine then_nrm ?_
    show Code.wp Try.prog _ _ _ _
    refine wp_seq ?_
    refine wp_region_list ?_
    refine W_val hA rfl 38 rfl (by decide) _ _ (R_row hA rfl rfl HH Try.underlying25 (size_hart.trans (by rw [varr_size]))) (fun a hA => ?_)
    refine W_cpH hA rfl rfl rfl rfl rfl A2 (fun w21 hT HN => ?_)
    replace HB := HB.trans (hT.bel _ gA2)
    replace HH := hT.hart HH (by omega)
    replace A2 := HN
    clear hT HN
    refine W_nil ?_
    refine then_nrm ?_
    show Code.wp Try.prog _ _ _ _
    refine wp_ret ?_
    have e3 : ¬ mppZ (t.n 38) = 3 := fun e => by rw [e] at c1; exact absurd c1 (by decide)
    have e5 : ((mppZ (t.n 38) : Nat) : Int) = 3 := by simpa using c4
    exact absurd (show mppZ (t.n 38) = 3 by omega) e3
  refine wp_skip ?_
  refine blk_nrm ?_
  refine then_nrm ?_
  show Code.wp Try.prog _ _ _ _
  refine wp_seq ?_
  refine wp_region_list ?_
  refine W_val hA rfl 26 rfl (by decide) _ _ (R_fa hA rfl rfl (fun w => fa_hart _ 7 38 (by decide) rfl w) _) (fun a hA => ?_)
  refine W_val hA rfl 27 rfl (by decide) _ _ (R_ld (v := .int .u64 (t.n 38)) hA rfl rfl ag_u64 (HH.u 38 (by decide) (by decide))) (fun a hA => ?_)
  refine W_callA hA (by decide) (fun _ _ => by kernel_rfl) (args3 hA rfl rfl rfl) (open_any _ 3 7 (by decide) (by decide) _ _ (by decide) (by decide) _) (fun w22 hw a hA => ?_)
  subst hw
  refine W_val hA rfl 29 rfl (by decide) _ _ (R_andNT hA rfl rfl rfl _ (and3 _) _) (fun a hA => ?_)
  refine W_val hA rfl 30 rfl (by decide) _ _ (R_fa hA rfl rfl (fun w => fa_hart _ 7 38 (by decide) rfl w) _) (fun a hA => ?_)
  refine W_stU hA rfl rfl rfl rfl rfl HH (by decide) (by decide) (fun w23 hT HN => ?_)
  replace HB := HB.trans (hT.bel _ gHH)
  replace A2 := hT.hart A2 (by omega)
  replace HH := HN
  clear hT HN
  refine W_nil ?_
  refine then_nrm ?_
  show Code.wp Try.prog _ _ _ _
  refine wp_seq ?_
  refine wp_seq ?_
  refine wp_region_list ?_
  refine W_val hA rfl 31 rfl (by decide) _ _ (R_mov hA rfl rfl _) (fun a hA => ?_)
  refine W_val hA rfl 32 rfl (by decide) _ _ (R_neqB hA rfl rfl rfl _) (fun a hA => ?_)
  refine W_nil ?_
  refine then_nrm ?_
  show Code.wp Try.prog _ _ _ _
  refine wp_cond_split (hA.ev (x := .tmp 32) rfl) (fun c5 => ?_) (fun c5 => ?_)
  · skip
    refine wp_region_list ?_
    refine W_val hA rfl 33 rfl (by decide) _ _ (R_fa hA rfl rfl (fun w => fa_hart _ 7 38 (by decide) rfl w) _) (fun a hA => ?_)
    refine W_val hA rfl 34 rfl (by decide) _ _ (R_ld (v := .int .u64 (withZ (withZ (withZ (withZ (withZ (t.n 38) 3 (bitZ (t.n 38) 7)) 7 true) 11 false) 12 false) 39 false)) hA rfl rfl ag_u64 (HH.u 38 (by decide) (by decide))) (fun a hA => ?_)
    refine W_val hA rfl 35 rfl (by decide) _ _ (R_andNT hA rfl rfl rfl (withZ (withZ (withZ (withZ (withZ (withZ (t.n 38) 3 (bitZ (t.n 38) 7)) 7 true) 11 false) 12 false) 39 false) 17 false) (andNot_with 17 (by decide)) _) (fun a hA => ?_)
    refine W_val hA rfl 36 rfl (by decide) _ _ (R_fa hA rfl rfl (fun w => fa_hart _ 7 38 (by decide) rfl w) _) (fun a hA => ?_)
    refine W_stU hA rfl rfl rfl rfl rfl HH (by decide) (by decide) (fun w24 hT HN => ?_)
    replace HB := HB.trans (hT.bel _ gHH)
    replace A2 := hT.hart A2 (by omega)
    replace HH := HN
    clear hT HN
    refine W_nil ?_
    refine then_nrm ?_
    show Code.wp Try.prog _ _ _ _
    refine wp_seq ?_
    refine wp_region_list ?_
    refine W_callA hA (by decide) (fun _ _ => by kernel_rfl) (args1 hA rfl) (letGo_any _ HH) (fun w25 hw a hA => ?_)
    obtain ⟨HN, hG⟩ := hw
    replace HB := HB.trans (hG.bel _ gHH)
    replace A2 := hG.hart A2 (by omega)
    replace HH := HN
    clear hG HN
    refine W_nil ?_
    refine then_nrm ?_
    show Code.wp Try.prog _ _ _ _
    refine wp_seq ?_
    refine wp_region_list ?_
    refine W_val hA rfl 38 rfl (by decide) _ _ (R_row hA rfl rfl HH Try.underlying25 (size_hart.trans (by rw [varr_size]))) (fun a hA => ?_)
    refine W_cpH hA rfl rfl rfl rfl rfl A2 (fun w26 hT HN => ?_)
    replace HB := HB.trans (hT.bel _ gA2)
    replace HH := hT.hart HH (by omega)
    replace A2 := HN
    clear hT HN
    refine W_nil ?_
    refine then_nrm ?_
    show Code.wp Try.prog _ _ _ _
    refine wp_ret ?_
    have e3 : ¬ mppZ (t.n 38) = 3 := fun e => by rw [e] at c1; exact absurd c1 (by decide)
    have e2 : ¬ mppZ (t.n 38) = 2 := fun e => by rw [e] at c3; exact absurd c3 (by decide)
    have e4 := mpp_lt (t.n 38)
    rcases (show mppZ (t.n 38) = 0 ∨ mppZ (t.n 38) = 1 by omega) with em | em
    · have e1 : stMr (t.n 38) = withZ (withZ (withZ (withZ (withZ (withZ (t.n 38) 3 (bitZ (t.n 38) 7)) 7 true) 11 false) 12 false) 39 false) 17 false := by
        unfold stMr
        rw [em]
        rfl
      have e2 : privM (t.n 38) = (mppZ (t.n 38) : Int) := by
        unfold privM
        rw [em]
        rfl
      have e3 : vM (t.n 38) = bitZ (t.n 38) 39 := by
        unfold vM
        rw [em]
        rfl
      refine ret_hart (j := 2) (by kernel_rfl) hA rfl A2 ⟨congrArg (fun q : HS => Ending.returned (hartV q)) ?_, HB⟩
      unfold mretZ
      rw [e1, e2, e3]
      refine HS.same (fun i => ?_) rfl rfl rfl
      by_cases h0 : i = 0
      · subst h0; rfl
      by_cases h33 : i = 33
      · subst h33; rfl
      by_cases h37 : i = 37
      · subst h37; rfl
      by_cases h38 : i = 38
      · subst h38; rfl
      simp only [mretZ, HS.put, HS.putV, HS.putW, HS.putH, HS.mode, h0, h33, h37, h38, if_false]
    · have e1 : stMr (t.n 38) = withZ (withZ (withZ (withZ (withZ (withZ (t.n 38) 3 (bitZ (t.n 38) 7)) 7 true) 11 false) 12 false) 39 false) 17 false := by
        unfold stMr
        rw [em]
        rfl
      have e2 : privM (t.n 38) = (mppZ (t.n 38) : Int) := by
        unfold privM
        rw [em]
        rfl
      have e3 : vM (t.n 38) = bitZ (t.n 38) 39 := by
        unfold vM
        rw [em]
        rfl
      refine ret_hart (j := 2) (by kernel_rfl) hA rfl A2 ⟨congrArg (fun q : HS => Ending.returned (hartV q)) ?_, HB⟩
      unfold mretZ
      rw [e1, e2, e3]
      refine HS.same (fun i => ?_) rfl rfl rfl
      by_cases h0 : i = 0
      · subst h0; rfl
      by_cases h33 : i = 33
      · subst h33; rfl
      by_cases h37 : i = 37
      · subst h37; rfl
      by_cases h38 : i = 38
      · subst h38; rfl
      simp only [mretZ, HS.put, HS.putV, HS.putW, HS.putH, HS.mode, h0, h33, h37, h38, if_false]
  refine wp_skip ?_
  refine then_nrm ?_
  show Code.wp Try.prog _ _ _ _
  refine wp_seq ?_
  refine wp_region_list ?_
  refine W_callA hA (by decide) (fun _ _ => by kernel_rfl) (args1 hA rfl) (letGo_any _ HH) (fun w27 hw a hA => ?_)
  obtain ⟨HN, hG⟩ := hw
  replace HB := HB.trans (hG.bel _ gHH)
  replace A2 := hG.hart A2 (by omega)
  replace HH := HN
  clear hG HN
  refine W_nil ?_
  refine then_nrm ?_
  show Code.wp Try.prog _ _ _ _
  refine wp_seq ?_
  refine wp_region_list ?_
  refine W_val hA rfl 38 rfl (by decide) _ _ (R_row hA rfl rfl HH Try.underlying25 (size_hart.trans (by rw [varr_size]))) (fun a hA => ?_)
  refine W_cpH hA rfl rfl rfl rfl rfl A2 (fun w28 hT HN => ?_)
  replace HB := HB.trans (hT.bel _ gA2)
  replace HH := hT.hart HH (by omega)
  replace A2 := HN
  clear hT HN
  refine W_nil ?_
  refine then_nrm ?_
  show Code.wp Try.prog _ _ _ _
  refine wp_ret ?_
  have e3 : ¬ mppZ (t.n 38) = 3 := fun e => by rw [e] at c1; exact absurd c1 (by decide)
  have e5 : ((mppZ (t.n 38) : Nat) : Int) = 3 := by simpa using c5
  exact absurd (show mppZ (t.n 38) = 3 by omega) e3
set_option maxHeartbeats 8000000 in
theorem dmret_any (t : HS) (ok : HOk t) (w : World) : Calls Try.prog 14 #[hartV t] w fun e w' => e = .returned (hartV (mretZ t)) ∧ Below w.heap.size w w' := by
  have HB := Below.refl w.heap.size w
  go_enter Try.func14, Try.ntmps14
  refine begin_fr [(0, hartV t)] 61 ?_ (fun a hA => ?_)
  · exact FrA.add (FrA.nil (by rfl) (by rfl)) 0 _ (by rfl)
  refine wp_seq ?_
  refine wp_region_list ?_
  refine W_boxH hA rfl 1 rfl (by decide) rfl rfl (fun w1 bHH a hA hb HH gHH => ?_)
  replace gHH := Nat.le_trans HB.size gHH
  replace HB := HB.trans (hb.mono HB.size)
  clear hb
  refine W_allocH hA rfl 2 rfl (by decide) rfl (fun w2 bA2 a hA hb A2 gA2 => ?_)
  have nHHA2 : bHH < bA2 := by have := HH.lt; omega
  replace gA2 := Nat.le_trans HB.size gA2
  replace HB := HB.trans (hb.mono HB.size)
  replace HH := HH.below hb
  clear hb
  refine W_nil ?_
  refine then_nrm ?_
  show Code.wp Try.prog _ _ _ _
  refine wp_seq ?_
  refine wp_region_list ?_
  refine W_val hA rfl 6 rfl (by decide) _ _ (R_row hA rfl rfl HH Try.underlying25 (size_hart.trans (by rw [varr_size]))) (fun a hA => ?_)
  refine W_allocH hA rfl 3 rfl (by decide) rfl (fun w3 bA3 a hA hb A3 gA3 => ?_)
  have nHHA3 : bHH < bA3 := by have := HH.lt; omega
  have nA2A3 : bA2 < bA3 := by have := A2.lt; omega
  replace gA3 := Nat.le_trans HB.size gA3
  replace HB := HB.trans (hb.mono HB.size)
  replace HH := HH.below hb
  replace A2 := A2.below hb
  clear hb
  refine W_cpH hA rfl rfl rfl rfl rfl A3 (fun w4 hT HN => ?_)
  replace HB := HB.trans (hT.bel _ gA3)
  replace HH := hT.hart HH (by omega)
  replace A2 := hT.hart A2 (by omega)
  replace A3 := HN
  clear hT HN
  refine W_nil ?_
  refine then_nrm ?_
  show Code.wp Try.prog _ _ _ _
  refine wp_seq ?_
  refine wp_region_list ?_
  refine W_val hA rfl 7 rfl (by decide) _ _ (R_fa hA rfl rfl (fun w => fa_hart _ 15 46 (by decide) rfl w) _) (fun a hA => ?_)
  refine W_val hA rfl 8 rfl (by decide) _ _ (R_ld (v := .int .u64 (t.n 46)) hA rfl rfl ag_u64 (HH.u 46 (by decide) (by decide))) (fun a hA => ?_)
  refine W_val hA rfl 9 rfl (by decide) _ _ (R_fa hA rfl rfl (fun w => fa_hart _ 0 0 (by decide) rfl w) _) (fun a hA => ?_)
  refine W_stU hA rfl rfl rfl rfl rfl A3 (by decide) (by decide) (fun w5 hT HN => ?_)
  replace HB := HB.trans (hT.bel _ gA3)
  replace HH := hT.hart HH (by omega)
  replace A2 := hT.hart A2 (by omega)
  replace A3 := HN
  clear hT HN
  refine W_nil ?_
  refine then_nrm ?_
  show Code.wp Try.prog _ _ _ _
  refine wp_seq ?_
  refine wp_region_list ?_
  refine W_val hA rfl 4 rfl (by decide) _ _ (R_asg hA rfl rfl _) (fun a hA => ?_)
  refine W_nil ?_
  refine then_nrm ?_
  show Code.wp Try.prog _ _ _ _
  refine wp_seq ?_
  refine wp_seq ?_
  refine wp_region_list ?_
  refine W_val hA rfl 10 rfl (by decide) _ _ (R_fa hA rfl rfl (fun w => fa_hart _ 7 38 (by decide) rfl w) _) (fun a hA => ?_)
  refine W_val hA rfl 11 rfl (by decide) _ _ (R_ld (v := .int .u64 (t.n 38)) hA rfl rfl ag_u64 (HH.u 38 (by decide) (by decide))) (fun a hA => ?_)
  refine W_callA hA (by decide) (fun _ _ => by kernel_rfl) (args2 hA rfl rfl) (dbitN_any _ (by first | exact ok.n _ | exact hc | exact ht) 11 (by decide) _) (fun w6 hw a hA => ?_)
  subst hw
  refine W_nil ?_
  refine then_nrm ?_
  show Code.wp Try.prog _ _ _ _
  refine wp_cond_split (hA.ev (x := .tmp 12) rfl) (fun c1 => ?_) (fun c1 => ?_)
  · skip
    refine wp_region_list ?_
    refine W_val hA rfl 13 rfl (by decide) _ _ (R_mov hA rfl rfl _) (fun a hA => ?_)
    refine W_val hA rfl 14 rfl (by decide) _ _ (R_addIT hA rfl rfl rfl 1 (by decide) _) (fun a hA => ?_)
    refine W_val hA rfl 4 rfl (by decide) _ _ (R_asg hA rfl rfl _) (fun a hA => ?_)
    refine W_nil ?_
    refine then_nrm ?_
    show Code.wp Try.prog _ _ _ _
    refine wp_seq ?_
    refine wp_seq ?_
    refine wp_region_list ?_
    refine W_val hA rfl 15 rfl (by decide) _ _ (R_fa hA rfl rfl (fun w => fa_hart _ 7 38 (by decide) rfl w) _) (fun a hA => ?_)
    refine W_val hA rfl 16 rfl (by decide) _ _ (R_ld (v := .int .u64 (t.n 38)) hA rfl rfl ag_u64 (HH.u 38 (by decide) (by decide))) (fun a hA => ?_)
    refine W_callA hA (by decide) (fun _ _ => by kernel_rfl) (args2 hA rfl rfl) (dbitN_any _ (by first | exact ok.n _ | exact hc | exact ht) 12 (by decide) _) (fun w7 hw a hA => ?_)
    subst hw
    refine W_nil ?_
    refine then_nrm ?_
    show Code.wp Try.prog _ _ _ _
    refine wp_cond_split (hA.ev (x := .tmp 17) rfl) (fun c2 => ?_) (fun c2 => ?_)
    · skip
      refine wp_region_list ?_
      refine W_val hA rfl 18 rfl (by decide) _ _ (R_mov hA rfl rfl _) (fun a hA => ?_)
      refine W_val hA rfl 19 rfl (by decide) _ _ (R_addIT hA rfl rfl rfl 3 (by decide) _) (fun a hA => ?_)
      refine W_val hA rfl 4 rfl (by decide) _ _ (R_asg hA rfl rfl _) (fun a hA => ?_)
      refine W_nil ?_
      refine then_nrm ?_
      show Code.wp Try.prog _ _ _ _
      refine wp_seq ?_
      refine wp_region_list ?_
      refine W_val hA rfl 20 rfl (by decide) _ _ (R_fa hA rfl rfl (fun w => fa_hart _ 2 33 (by decide) rfl w) _) (fun a hA => ?_)
      refine W_stP hA rfl rfl rfl rfl rfl A3 (fun w8 hT HN => ?_)
      replace HB := HB.trans (hT.bel _ gA3)
      replace HH := hT.hart HH (by omega)
      replace A2 := hT.hart A2 (by omega)
      replace A3 := HN
      clear hT HN
      refine W_nil ?_
      refine then_nrm ?_
      show Code.wp Try.prog _ _ _ _
      refine wp_seq ?_
      refine wp_seq ?_
      refine wp_region_list ?_
      refine W_val hA rfl 21 rfl (by decide) _ _ (R_mov hA rfl rfl _) (fun a hA => ?_)
      refine W_val hA rfl 22 rfl (by decide) _ _ (R_eqlIT hA rfl rfl rfl false (by decide) _) (fun a hA => ?_)
      refine W_val hA rfl 23 rfl (by decide) _ _ (R_mov hA rfl rfl _) (fun a hA => ?_)
      refine W_gval hA rfl rfl rfl 24 rfl (by decide) _ _ (R_mov hA rfl rfl _) (fun a hA => ?_)
      refine W_gval hA rfl rfl rfl 25 rfl (by decide) _ _ (R_eqlIT hA rfl rfl rfl true (by decide) _) (fun a hA => ?_)
      refine W_val hA rfl 26 rfl (by decide) _ _ (R_pick hA rfl rfl rfl _) (fun a hA => ?_)
      refine W_nil ?_
      refine then_nrm ?_
      show Code.wp Try.prog _ _ _ _
      refine wp_cond_true (hA.ev (x := .tmp 26) rfl) ?_
      refine wp_region_list ?_
      refine W_val hA rfl 27 rfl (by decide) _ _ (R_mov hA rfl rfl _) (fun a hA => ?_)
      refine W_val hA rfl 28 rfl (by decide) _ _ (R_cvIB hA rfl rfl 3 (by decide) _) (fun a hA => ?_)
      refine W_val hA rfl 29 rfl (by decide) _ _ (R_fa hA rfl rfl (fun w => fa_hart _ 2 33 (by decide) rfl w) _) (fun a hA => ?_)
      refine W_stP hA rfl rfl rfl rfl rfl A3 (fun w9 hT HN => ?_)
      replace HB := HB.trans (hT.bel _ gA3)
      replace HH := hT.hart HH (by omega)
      replace A2 := hT.hart A2 (by omega)
      replace A3 := HN
      clear hT HN
      refine W_nil ?_
      refine then_nrm ?_
      show Code.wp Try.prog _ _ _ _
      refine wp_seq ?_
      refine wp_region_list ?_
      refine W_val hA rfl 30 rfl (by decide) _ _ (R_mov hA rfl rfl _) (fun a hA => ?_)
      refine W_val hA rfl 31 rfl (by decide) _ _ (R_neqIT hA rfl rfl rfl false (by decide) _) (fun a hA => ?_)
      refine W_val hA rfl 32 rfl (by decide) _ _ (R_mov hA rfl rfl _) (fun a hA => ?_)
      refine W_gskip hA rfl rfl rfl 33 rfl (by decide) (fun a hA => ?_)
      refine W_gskip hA rfl rfl rfl 34 rfl (by decide) (fun a hA => ?_)
      refine W_gskip hA rfl rfl rfl 35 rfl (by decide) (fun a hA => ?_)
      refine W_val hA rfl 36 rfl (by decide) _ _ (R_pick hA rfl rfl rfl _) (fun a hA => ?_)
      refine W_val hA rfl 37 rfl (by decide) _ _ (R_fa hA rfl rfl (fun w => fa_hart _ 3 34 (by decide) rfl w) _) (fun a hA => ?_)
      refine W_stV hA rfl rfl rfl rfl rfl A3 (fun w10 hT HN => ?_)
      replace HB := HB.trans (hT.bel _ gA3)
      replace HH := hT.hart HH (by omega)
      replace A2 := hT.hart A2 (by omega)
      replace A3 := HN
      clear hT HN
      refine W_nil ?_
      refine then_nrm ?_
      show Code.wp Try.prog _ _ _ _
      refine wp_seq ?_
      refine wp_region_held_drew (S := fun wx => Below w10.heap.size w10 wx) (by kernel_rfl) ((Below.refl _ _).drew) (fun hS => ?_)
      refine takeF (i := 0) hA 38 rfl rfl (by decide) rfl (by kernel_rfl) (by kernel_rfl) (by kernel_rfl) (fun _ _ _ h => h) hS (fun wx hx => R_fa hA rfl rfl (fun w => fa_hart _ 7 38 (by decide) rfl w) _) (fun a hA => ?_)
      refine takeF (i := 1) hA 39 rfl rfl (by decide) rfl (by kernel_rfl) (by kernel_rfl) (by kernel_rfl) (fun _ _ _ h => h) hS (fun wx hx => R_ld (v := .int .u64 (t.n 38)) hA rfl rfl ag_u64 ((HH.below hx).u 38 (by decide) (by decide))) (fun a hA => ?_)
      refine takeF (i := 2) hA 40 rfl rfl (by decide) rfl (by kernel_rfl) (by kernel_rfl) (by kernel_rfl) (fun _ _ _ h => h) hS (fun wx hx => R_fa hA rfl rfl (fun w => fa_hart _ 7 38 (by decide) rfl w) _) (fun a hA => ?_)
      refine takeF (i := 3) hA 41 rfl rfl (by decide) rfl (by kernel_rfl) (by kernel_rfl) (by kernel_rfl) (fun _ _ _ h => h) hS (fun wx hx => R_ld (v := .int .u64 (t.n 38)) hA rfl rfl ag_u64 ((HH.below hx).u 38 (by decide) (by decide))) (fun a hA => ?_)
      refine wpAnyH_ready (rs := [4]) (by kernel_rfl) (by simp) (ready_call (i := 4) hA (by decide) rfl (fun _ _ => by kernel_rfl) (args2 hA rfl rfl) (dbitN_any _ (by first | exact ok.n _ | exact hc | exact ht) 7 (by decide) _) (fun _ h => h ▸ hS) (fun w11 hw a hA => ?_) AllReadyH.nil)
      subst hw
      refine wpAnyH_ready (rs := [5]) (by kernel_rfl) (by simp) (ready_call (i := 5) hA (by decide) rfl (fun _ _ => by kernel_rfl) (args3 hA rfl rfl rfl) (dwith_any _ 3 (by decide) _ _) (fun _ h => h ▸ hS) (fun w12 hw a hA => ?_) AllReadyH.nil)
      subst hw
      refine takeF (i := 6) hA 5 rfl rfl (by decide) rfl (by kernel_rfl) (by kernel_rfl) (by kernel_rfl) (fun _ _ _ h => h) hS (fun wx hx => R_asg hA rfl rfl _) (fun a hA => ?_)
      refine wpAnyH_done (by kernel_rfl) ?_ _
      replace HH := HH.below hS
      replace A2 := A2.below hS
      replace A3 := A3.below hS
      replace HB := HB.trans (hS.mono HB.size)
      clear hS
      generalize World.drew w10 = w13 at *
      refine then_nrm ?_
      show Code.wp Try.prog _ _ _ _
      refine wp_seq ?_
      refine wp_region_list ?_
      refine W_val hA rfl 44 rfl (by decide) _ _ (R_mov hA rfl rfl _) (fun a hA => ?_)
      refine W_callA hA (by decide) (fun _ _ => by kernel_rfl) (args3 hA rfl rfl rfl) (dwith_any _ 7 (by decide) _ _) (fun w14 hw a hA => ?_)
      subst hw
      refine W_val hA rfl 5 rfl (by decide) _ _ (R_asg hA rfl rfl _) (fun a hA => ?_)
      refine W_nil ?_
      refine then_nrm ?_
      show Code.wp Try.prog _ _ _ _
      refine wp_seq ?_
      refine wp_region_list ?_
      refine W_val hA rfl 46 rfl (by decide) _ _ (R_mov hA rfl rfl _) (fun a hA => ?_)
      refine W_callA hA (by decide) (fun _ _ => by kernel_rfl) (args3 hA rfl rfl rfl) (dwith_any _ 11 (by decide) _ _) (fun w15 hw a hA => ?_)
      subst hw
      refine W_val hA rfl 5 rfl (by decide) _ _ (R_asg hA rfl rfl _) (fun a hA => ?_)
      refine W_nil ?_
      refine then_nrm ?_
      show Code.wp Try.prog _ _ _ _
      refine wp_seq ?_
      refine wp_region_list ?_
      refine W_val hA rfl 48 rfl (by decide) _ _ (R_mov hA rfl rfl _) (fun a hA => ?_)
      refine W_callA hA (by decide) (fun _ _ => by kernel_rfl) (args3 hA rfl rfl rfl) (dwith_any _ 12 (by decide) _ _) (fun w16 hw a hA => ?_)
      subst hw
      refine W_val hA rfl 5 rfl (by decide) _ _ (R_asg hA rfl rfl _) (fun a hA => ?_)
      refine W_nil ?_
      refine then_nrm ?_
      show Code.wp Try.prog _ _ _ _
      refine wp_seq ?_
      refine wp_region_list ?_
      refine W_val hA rfl 50 rfl (by decide) _ _ (R_mov hA rfl rfl _) (fun a hA => ?_)
      refine W_callA hA (by decide) (fun _ _ => by kernel_rfl) (args3 hA rfl rfl rfl) (dwith_any _ 39 (by decide) _ _) (fun w17 hw a hA => ?_)
      subst hw
      refine W_val hA rfl 5 rfl (by decide) _ _ (R_asg hA rfl rfl _) (fun a hA => ?_)
      refine W_nil ?_
      refine then_nrm ?_
      show Code.wp Try.prog _ _ _ _
      refine wp_seq ?_
      refine wp_seq ?_
      refine wp_region_list ?_
      refine W_val hA rfl 52 rfl (by decide) _ _ (R_mov hA rfl rfl _) (fun a hA => ?_)
      refine W_val hA rfl 53 rfl (by decide) _ _ (R_neqIT hA rfl rfl rfl false (by decide) _) (fun a hA => ?_)
      refine W_nil ?_
      refine then_nrm ?_
      show Code.wp Try.prog _ _ _ _
      refine wp_cond_false (hA.ev (x := .tmp 53) rfl) ?_
      refine wp_skip ?_
      refine then_nrm ?_
      show Code.wp Try.prog _ _ _ _
      refine wp_seq ?_
      refine wp_region_list ?_
      refine W_val hA rfl 56 rfl (by decide) _ _ (R_mov hA rfl rfl _) (fun a hA => ?_)
      refine W_val hA rfl 57 rfl (by decide) _ _ (R_fa hA rfl rfl (fun w => fa_hart _ 7 38 (by decide) rfl w) _) (fun a hA => ?_)
      refine W_stU hA rfl rfl rfl rfl rfl A3 (by decide) (by decide) (fun w18 hT HN => ?_)
      replace HB := HB.trans (hT.bel _ gA3)
      replace HH := hT.hart HH (by omega)
      replace A2 := hT.hart A2 (by omega)
      replace A3 := HN
      clear hT HN
      refine W_nil ?_
      refine then_nrm ?_
      show Code.wp Try.prog _ _ _ _
      refine wp_seq ?_
      refine wp_region_list ?_
      refine W_val hA rfl 58 rfl (by decide) _ _ (R_fa hA rfl rfl (fun w => fa_hart _ 5 36 (by decide) rfl w) _) (fun a hA => ?_)
      refine W_stHd hA rfl rfl rfl rfl rfl A3 (fun w19 hT HN => ?_)
      replace HB := HB.trans (hT.bel _ gA3)
      replace HH := hT.hart HH (by omega)
      replace A2 := hT.hart A2 (by omega)
      replace A3 := HN
      clear hT HN
      refine W_nil ?_
      refine then_nrm ?_
      show Code.wp Try.prog _ _ _ _
      refine wp_seq ?_
      refine wp_region_list ?_
      refine W_val hA rfl 59 rfl (by decide) _ _ (R_fa hA rfl rfl (fun w => fa_hart _ 6 37 (by decide) rfl w) _) (fun a hA => ?_)
      refine W_stU hA rfl rfl rfl rfl rfl A3 (by decide) (by decide) (fun w20 hT HN => ?_)
      replace HB := HB.trans (hT.bel _ gA3)
      replace HH := hT.hart HH (by omega)
      replace A2 := hT.hart A2 (by omega)
      replace A3 := HN
      clear hT HN
      refine W_nil ?_
      refine then_nrm ?_
      show Code.wp Try.prog _ _ _ _
      refine wp_seq ?_
      refine wp_region_list ?_
      refine W_val hA rfl 60 rfl (by decide) _ _ (R_row hA rfl rfl A3 Try.underlying25 (size_hart.trans (by rw [varr_size]))) (fun a hA => ?_)
      refine W_cpH hA rfl rfl rfl rfl rfl A2 (fun w21 hT HN => ?_)
      replace HB := HB.trans (hT.bel _ gA2)
      replace HH := hT.hart HH (by omega)
      replace A3 := hT.hart A3 (by omega)
      replace A2 := HN
      clear hT HN
      refine W_nil ?_
      refine then_nrm ?_
      show Code.wp Try.prog _ _ _ _
      refine wp_ret ?_
      have em : mppZ (t.n 38) = 3 := by
        unfold mppZ
        rw [c1, c2]
        rfl
      have e1 : stMr (t.n 38) = withZ (withZ (withZ (withZ (withZ (t.n 38) 3 (bitZ (t.n 38) 7)) 7 (true)) 11 (false)) 12 (false)) 39 (false) := by
        unfold stMr
        rw [em]
        rfl
      have e2 : privM (t.n 38) = 3 := by
        unfold privM
        rw [em]
        rfl
      have e3 : vM (t.n 38) = false := by
        unfold vM
        rw [em]
        rfl
      refine ret_hart (j := 2) (by kernel_rfl) hA rfl A2 ⟨congrArg (fun q : HS => Ending.returned (hartV q)) ?_, HB⟩
      unfold mretZ
      rw [e1, e2, e3]
      refine HS.same (fun i => ?_) rfl rfl rfl
      by_cases h0 : i = 0
      · subst h0; rfl
      by_cases h33 : i = 33
      · subst h33; rfl
      by_cases h37 : i = 37
      · subst h37; rfl
      by_cases h38 : i = 38
      · subst h38; rfl
      simp only [mretZ, HS.put, HS.putV, HS.putW, HS.putH, HS.mode, h0, h33, h37, h38, if_false]
    refine wp_skip ?_
    refine then_nrm ?_
    show Code.wp Try.prog _ _ _ _
    refine wp_seq ?_
    refine wp_region_list ?_
    refine W_val hA rfl 20 rfl (by decide) _ _ (R_fa hA rfl rfl (fun w => fa_hart _ 2 33 (by decide) rfl w) _) (fun a hA => ?_)
    refine W_stP hA rfl rfl rfl rfl rfl A3 (fun w22 hT HN => ?_)
    replace HB := HB.trans (hT.bel _ gA3)
    replace HH := hT.hart HH (by omega)
    replace A2 := hT.hart A2 (by omega)
    replace A3 := HN
    clear hT HN
    refine W_nil ?_
    refine then_nrm ?_
    show Code.wp Try.prog _ _ _ _
    refine wp_seq ?_
    refine wp_seq ?_
    refine wp_region_list ?_
    refine W_val hA rfl 21 rfl (by decide) _ _ (R_mov hA rfl rfl _) (fun a hA => ?_)
    refine W_val hA rfl 22 rfl (by decide) _ _ (R_eqlIT hA rfl rfl rfl true (by decide) _) (fun a hA => ?_)
    refine W_val hA rfl 23 rfl (by decide) _ _ (R_mov hA rfl rfl _) (fun a hA => ?_)
    refine W_gskip hA rfl rfl rfl 24 rfl (by decide) (fun a hA => ?_)
    refine W_gskip hA rfl rfl rfl 25 rfl (by decide) (fun a hA => ?_)
    refine W_val hA rfl 26 rfl (by decide) _ _ (R_pick hA rfl rfl rfl _) (fun a hA => ?_)
    refine W_nil ?_
    refine then_nrm ?_
    show Code.wp Try.prog _ _ _ _
    refine wp_cond_true (hA.ev (x := .tmp 26) rfl) ?_
    refine wp_region_list ?_
    refine W_val hA rfl 27 rfl (by decide) _ _ (R_mov hA rfl rfl _) (fun a hA => ?_)
    refine W_val hA rfl 28 rfl (by decide) _ _ (R_cvIB hA rfl rfl 1 (by decide) _) (fun a hA => ?_)
    refine W_val hA rfl 29 rfl (by decide) _ _ (R_fa hA rfl rfl (fun w => fa_hart _ 2 33 (by decide) rfl w) _) (fun a hA => ?_)
    refine W_stP hA rfl rfl rfl rfl rfl A3 (fun w23 hT HN => ?_)
    replace HB := HB.trans (hT.bel _ gA3)
    replace HH := hT.hart HH (by omega)
    replace A2 := hT.hart A2 (by omega)
    replace A3 := HN
    clear hT HN
    refine W_nil ?_
    refine then_nrm ?_
    show Code.wp Try.prog _ _ _ _
    refine wp_seq ?_
    refine wp_region_list ?_
    refine W_val hA rfl 30 rfl (by decide) _ _ (R_mov hA rfl rfl _) (fun a hA => ?_)
    refine W_val hA rfl 31 rfl (by decide) _ _ (R_neqIT hA rfl rfl rfl true (by decide) _) (fun a hA => ?_)
    refine W_val hA rfl 32 rfl (by decide) _ _ (R_mov hA rfl rfl _) (fun a hA => ?_)
    refine W_gval hA rfl rfl rfl 33 rfl (by decide) _ _ (R_fa hA rfl rfl (fun w => fa_hart _ 7 38 (by decide) rfl w) _) (fun a hA => ?_)
    refine W_gval hA rfl rfl rfl 34 rfl (by decide) _ _ (R_ld (v := .int .u64 (t.n 38)) hA rfl rfl ag_u64 (HH.u 38 (by decide) (by decide))) (fun a hA => ?_)
    refine W_gcallB hA rfl rfl (by decide) (fun _ _ => by kernel_rfl) (args2 hA rfl rfl) (dbitN_any _ (by first | exact ok.n _ | exact hc | exact ht) 39 (by decide) _) (fun w24 hw a hA => ?_)
    subst hw
    refine W_val hA rfl 36 rfl (by decide) _ _ (R_pick hA rfl rfl rfl _) (fun a hA => ?_)
    refine W_val hA rfl 37 rfl (by decide) _ _ (R_fa hA rfl rfl (fun w => fa_hart _ 3 34 (by decide) rfl w) _) (fun a hA => ?_)
    refine W_stV hA rfl rfl rfl rfl rfl A3 (fun w25 hT HN => ?_)
    replace HB := HB.trans (hT.bel _ gA3)
    replace HH := hT.hart HH (by omega)
    replace A2 := hT.hart A2 (by omega)
    replace A3 := HN
    clear hT HN
    refine W_nil ?_
    refine then_nrm ?_
    show Code.wp Try.prog _ _ _ _
    refine wp_seq ?_
    refine wp_region_held_drew (S := fun wx => Below w25.heap.size w25 wx) (by kernel_rfl) ((Below.refl _ _).drew) (fun hS => ?_)
    refine takeF (i := 0) hA 38 rfl rfl (by decide) rfl (by kernel_rfl) (by kernel_rfl) (by kernel_rfl) (fun _ _ _ h => h) hS (fun wx hx => R_fa hA rfl rfl (fun w => fa_hart _ 7 38 (by decide) rfl w) _) (fun a hA => ?_)
    refine takeF (i := 1) hA 39 rfl rfl (by decide) rfl (by kernel_rfl) (by kernel_rfl) (by kernel_rfl) (fun _ _ _ h => h) hS (fun wx hx => R_ld (v := .int .u64 (t.n 38)) hA rfl rfl ag_u64 ((HH.below hx).u 38 (by decide) (by decide))) (fun a hA => ?_)
    refine takeF (i := 2) hA 40 rfl rfl (by decide) rfl (by kernel_rfl) (by kernel_rfl) (by kernel_rfl) (fun _ _ _ h => h) hS (fun wx hx => R_fa hA rfl rfl (fun w => fa_hart _ 7 38 (by decide) rfl w) _) (fun a hA => ?_)
    refine takeF (i := 3) hA 41 rfl rfl (by decide) rfl (by kernel_rfl) (by kernel_rfl) (by kernel_rfl) (fun _ _ _ h => h) hS (fun wx hx => R_ld (v := .int .u64 (t.n 38)) hA rfl rfl ag_u64 ((HH.below hx).u 38 (by decide) (by decide))) (fun a hA => ?_)
    refine wpAnyH_ready (rs := [4]) (by kernel_rfl) (by simp) (ready_call (i := 4) hA (by decide) rfl (fun _ _ => by kernel_rfl) (args2 hA rfl rfl) (dbitN_any _ (by first | exact ok.n _ | exact hc | exact ht) 7 (by decide) _) (fun _ h => h ▸ hS) (fun w26 hw a hA => ?_) AllReadyH.nil)
    subst hw
    refine wpAnyH_ready (rs := [5]) (by kernel_rfl) (by simp) (ready_call (i := 5) hA (by decide) rfl (fun _ _ => by kernel_rfl) (args3 hA rfl rfl rfl) (dwith_any _ 3 (by decide) _ _) (fun _ h => h ▸ hS) (fun w27 hw a hA => ?_) AllReadyH.nil)
    subst hw
    refine takeF (i := 6) hA 5 rfl rfl (by decide) rfl (by kernel_rfl) (by kernel_rfl) (by kernel_rfl) (fun _ _ _ h => h) hS (fun wx hx => R_asg hA rfl rfl _) (fun a hA => ?_)
    refine wpAnyH_done (by kernel_rfl) ?_ _
    replace HH := HH.below hS
    replace A2 := A2.below hS
    replace A3 := A3.below hS
    replace HB := HB.trans (hS.mono HB.size)
    clear hS
    generalize World.drew w25 = w28 at *
    refine then_nrm ?_
    show Code.wp Try.prog _ _ _ _
    refine wp_seq ?_
    refine wp_region_list ?_
    refine W_val hA rfl 44 rfl (by decide) _ _ (R_mov hA rfl rfl _) (fun a hA => ?_)
    refine W_callA hA (by decide) (fun _ _ => by kernel_rfl) (args3 hA rfl rfl rfl) (dwith_any _ 7 (by decide) _ _) (fun w29 hw a hA => ?_)
    subst hw
    refine W_val hA rfl 5 rfl (by decide) _ _ (R_asg hA rfl rfl _) (fun a hA => ?_)
    refine W_nil ?_
    refine then_nrm ?_
    show Code.wp Try.prog _ _ _ _
    refine wp_seq ?_
    refine wp_region_list ?_
    refine W_val hA rfl 46 rfl (by decide) _ _ (R_mov hA rfl rfl _) (fun a hA => ?_)
    refine W_callA hA (by decide) (fun _ _ => by kernel_rfl) (args3 hA rfl rfl rfl) (dwith_any _ 11 (by decide) _ _) (fun w30 hw a hA => ?_)
    subst hw
    refine W_val hA rfl 5 rfl (by decide) _ _ (R_asg hA rfl rfl _) (fun a hA => ?_)
    refine W_nil ?_
    refine then_nrm ?_
    show Code.wp Try.prog _ _ _ _
    refine wp_seq ?_
    refine wp_region_list ?_
    refine W_val hA rfl 48 rfl (by decide) _ _ (R_mov hA rfl rfl _) (fun a hA => ?_)
    refine W_callA hA (by decide) (fun _ _ => by kernel_rfl) (args3 hA rfl rfl rfl) (dwith_any _ 12 (by decide) _ _) (fun w31 hw a hA => ?_)
    subst hw
    refine W_val hA rfl 5 rfl (by decide) _ _ (R_asg hA rfl rfl _) (fun a hA => ?_)
    refine W_nil ?_
    refine then_nrm ?_
    show Code.wp Try.prog _ _ _ _
    refine wp_seq ?_
    refine wp_region_list ?_
    refine W_val hA rfl 50 rfl (by decide) _ _ (R_mov hA rfl rfl _) (fun a hA => ?_)
    refine W_callA hA (by decide) (fun _ _ => by kernel_rfl) (args3 hA rfl rfl rfl) (dwith_any _ 39 (by decide) _ _) (fun w32 hw a hA => ?_)
    subst hw
    refine W_val hA rfl 5 rfl (by decide) _ _ (R_asg hA rfl rfl _) (fun a hA => ?_)
    refine W_nil ?_
    refine then_nrm ?_
    show Code.wp Try.prog _ _ _ _
    refine wp_seq ?_
    refine wp_seq ?_
    refine wp_region_list ?_
    refine W_val hA rfl 52 rfl (by decide) _ _ (R_mov hA rfl rfl _) (fun a hA => ?_)
    refine W_val hA rfl 53 rfl (by decide) _ _ (R_neqIT hA rfl rfl rfl true (by decide) _) (fun a hA => ?_)
    refine W_nil ?_
    refine then_nrm ?_
    show Code.wp Try.prog _ _ _ _
    refine wp_cond_true (hA.ev (x := .tmp 53) rfl) ?_
    refine wp_region_list ?_
    refine W_val hA rfl 54 rfl (by decide) _ _ (R_mov hA rfl rfl _) (fun a hA => ?_)
    refine W_callA hA (by decide) (fun _ _ => by kernel_rfl) (args3 hA rfl rfl rfl) (dwith_any _ 17 (by decide) _ _) (fun w33 hw a hA => ?_)
    subst hw
    refine W_val hA rfl 5 rfl (by decide) _ _ (R_asg hA rfl rfl _) (fun a hA => ?_)
    refine W_nil ?_
    refine then_nrm ?_
    show Code.wp Try.prog _ _ _ _
    refine wp_seq ?_
    refine wp_region_list ?_
    refine W_val hA rfl 56 rfl (by decide) _ _ (R_mov hA rfl rfl _) (fun a hA => ?_)
    refine W_val hA rfl 57 rfl (by decide) _ _ (R_fa hA rfl rfl (fun w => fa_hart _ 7 38 (by decide) rfl w) _) (fun a hA => ?_)
    refine W_stU hA rfl rfl rfl rfl rfl A3 (by decide) (by decide) (fun w34 hT HN => ?_)
    replace HB := HB.trans (hT.bel _ gA3)
    replace HH := hT.hart HH (by omega)
    replace A2 := hT.hart A2 (by omega)
    replace A3 := HN
    clear hT HN
    refine W_nil ?_
    refine then_nrm ?_
    show Code.wp Try.prog _ _ _ _
    refine wp_seq ?_
    refine wp_region_list ?_
    refine W_val hA rfl 58 rfl (by decide) _ _ (R_fa hA rfl rfl (fun w => fa_hart _ 5 36 (by decide) rfl w) _) (fun a hA => ?_)
    refine W_stHd hA rfl rfl rfl rfl rfl A3 (fun w35 hT HN => ?_)
    replace HB := HB.trans (hT.bel _ gA3)
    replace HH := hT.hart HH (by omega)
    replace A2 := hT.hart A2 (by omega)
    replace A3 := HN
    clear hT HN
    refine W_nil ?_
    refine then_nrm ?_
    show Code.wp Try.prog _ _ _ _
    refine wp_seq ?_
    refine wp_region_list ?_
    refine W_val hA rfl 59 rfl (by decide) _ _ (R_fa hA rfl rfl (fun w => fa_hart _ 6 37 (by decide) rfl w) _) (fun a hA => ?_)
    refine W_stU hA rfl rfl rfl rfl rfl A3 (by decide) (by decide) (fun w36 hT HN => ?_)
    replace HB := HB.trans (hT.bel _ gA3)
    replace HH := hT.hart HH (by omega)
    replace A2 := hT.hart A2 (by omega)
    replace A3 := HN
    clear hT HN
    refine W_nil ?_
    refine then_nrm ?_
    show Code.wp Try.prog _ _ _ _
    refine wp_seq ?_
    refine wp_region_list ?_
    refine W_val hA rfl 60 rfl (by decide) _ _ (R_row hA rfl rfl A3 Try.underlying25 (size_hart.trans (by rw [varr_size]))) (fun a hA => ?_)
    refine W_cpH hA rfl rfl rfl rfl rfl A2 (fun w37 hT HN => ?_)
    replace HB := HB.trans (hT.bel _ gA2)
    replace HH := hT.hart HH (by omega)
    replace A3 := hT.hart A3 (by omega)
    replace A2 := HN
    clear hT HN
    refine W_nil ?_
    refine then_nrm ?_
    show Code.wp Try.prog _ _ _ _
    refine wp_ret ?_
    have em : mppZ (t.n 38) = 1 := by
      unfold mppZ
      rw [c1, c2]
      rfl
    have e1 : stMr (t.n 38) = withZ (withZ (withZ (withZ (withZ (withZ (t.n 38) 3 (bitZ (t.n 38) 7)) 7 (true)) 11 (false)) 12 (false)) 39 (false)) 17 (false) := by
      unfold stMr
      rw [em]
      rfl
    have e2 : privM (t.n 38) = 1 := by
      unfold privM
      rw [em]
      rfl
    have e3 : vM (t.n 38) = bitZ (t.n 38) 39 := by
      unfold vM
      rw [em]
      rfl
    refine ret_hart (j := 2) (by kernel_rfl) hA rfl A2 ⟨congrArg (fun q : HS => Ending.returned (hartV q)) ?_, HB⟩
    unfold mretZ
    rw [e1, e2, e3]
    refine HS.same (fun i => ?_) rfl rfl rfl
    by_cases h0 : i = 0
    · subst h0; rfl
    by_cases h33 : i = 33
    · subst h33; rfl
    by_cases h37 : i = 37
    · subst h37; rfl
    by_cases h38 : i = 38
    · subst h38; rfl
    simp only [mretZ, HS.put, HS.putV, HS.putW, HS.putH, HS.mode, h0, h33, h37, h38, if_false]
  refine wp_skip ?_
  refine then_nrm ?_
  show Code.wp Try.prog _ _ _ _
  refine wp_seq ?_
  refine wp_seq ?_
  refine wp_region_list ?_
  refine W_val hA rfl 15 rfl (by decide) _ _ (R_fa hA rfl rfl (fun w => fa_hart _ 7 38 (by decide) rfl w) _) (fun a hA => ?_)
  refine W_val hA rfl 16 rfl (by decide) _ _ (R_ld (v := .int .u64 (t.n 38)) hA rfl rfl ag_u64 (HH.u 38 (by decide) (by decide))) (fun a hA => ?_)
  refine W_callA hA (by decide) (fun _ _ => by kernel_rfl) (args2 hA rfl rfl) (dbitN_any _ (by first | exact ok.n _ | exact hc | exact ht) 12 (by decide) _) (fun w38 hw a hA => ?_)
  subst hw
  refine W_nil ?_
  refine then_nrm ?_
  show Code.wp Try.prog _ _ _ _
  refine wp_cond_split (hA.ev (x := .tmp 17) rfl) (fun c3 => ?_) (fun c3 => ?_)
  · skip
    refine wp_region_list ?_
    refine W_val hA rfl 18 rfl (by decide) _ _ (R_mov hA rfl rfl _) (fun a hA => ?_)
    refine W_val hA rfl 19 rfl (by decide) _ _ (R_addIT hA rfl rfl rfl 2 (by decide) _) (fun a hA => ?_)
    refine W_val hA rfl 4 rfl (by decide) _ _ (R_asg hA rfl rfl _) (fun a hA => ?_)
    refine W_nil ?_
    refine then_nrm ?_
    show Code.wp Try.prog _ _ _ _
    refine wp_seq ?_
    refine wp_region_list ?_
    refine W_val hA rfl 20 rfl (by decide) _ _ (R_fa hA rfl rfl (fun w => fa_hart _ 2 33 (by decide) rfl w) _) (fun a hA => ?_)
    refine W_stP hA rfl rfl rfl rfl rfl A3 (fun w39 hT HN => ?_)
    replace HB := HB.trans (hT.bel _ gA3)
    replace HH := hT.hart HH (by omega)
    replace A2 := hT.hart A2 (by omega)
    replace A3 := HN
    clear hT HN
    refine W_nil ?_
    refine then_nrm ?_
    show Code.wp Try.prog _ _ _ _
    refine wp_seq ?_
    refine wp_seq ?_
    refine wp_region_list ?_
    refine W_val hA rfl 21 rfl (by decide) _ _ (R_mov hA rfl rfl _) (fun a hA => ?_)
    refine W_val hA rfl 22 rfl (by decide) _ _ (R_eqlIT hA rfl rfl rfl false (by decide) _) (fun a hA => ?_)
    refine W_val hA rfl 23 rfl (by decide) _ _ (R_mov hA rfl rfl _) (fun a hA => ?_)
    refine W_gval hA rfl rfl rfl 24 rfl (by decide) _ _ (R_mov hA rfl rfl _) (fun a hA => ?_)
    refine W_gval hA rfl rfl rfl 25 rfl (by decide) _ _ (R_eqlIT hA rfl rfl rfl false (by decide) _) (fun a hA => ?_)
    refine W_val hA rfl 26 rfl (by decide) _ _ (R_pick hA rfl rfl rfl _) (fun a hA => ?_)
    refine W_nil ?_
    refine then_nrm ?_
    show Code.wp Try.prog _ _ _ _
    refine wp_cond_false (hA.ev (x := .tmp 26) rfl) ?_
    refine wp_skip ?_
    refine then_nrm ?_
    show Code.wp Try.prog _ _ _ _
    refine wp_seq ?_
    refine wp_region_list ?_
    refine W_val hA rfl 30 rfl (by decide) _ _ (R_mov hA rfl rfl _) (fun a hA => ?_)
    refine W_val hA rfl 31 rfl (by decide) _ _ (R_neqIT hA rfl rfl rfl true (by decide) _) (fun a hA => ?_)
    refine W_val hA rfl 32 rfl (by decide) _ _ (R_mov hA rfl rfl _) (fun a hA => ?_)
    refine W_gval hA rfl rfl rfl 33 rfl (by decide) _ _ (R_fa hA rfl rfl (fun w => fa_hart _ 7 38 (by decide) rfl w) _) (fun a hA => ?_)
    refine W_gval hA rfl rfl rfl 34 rfl (by decide) _ _ (R_ld (v := .int .u64 (t.n 38)) hA rfl rfl ag_u64 (HH.u 38 (by decide) (by decide))) (fun a hA => ?_)
    refine W_gcallB hA rfl rfl (by decide) (fun _ _ => by kernel_rfl) (args2 hA rfl rfl) (dbitN_any _ (by first | exact ok.n _ | exact hc | exact ht) 39 (by decide) _) (fun w40 hw a hA => ?_)
    subst hw
    refine W_val hA rfl 36 rfl (by decide) _ _ (R_pick hA rfl rfl rfl _) (fun a hA => ?_)
    refine W_val hA rfl 37 rfl (by decide) _ _ (R_fa hA rfl rfl (fun w => fa_hart _ 3 34 (by decide) rfl w) _) (fun a hA => ?_)
    refine W_stV hA rfl rfl rfl rfl rfl A3 (fun w41 hT HN => ?_)
    replace HB := HB.trans (hT.bel _ gA3)
    replace HH := hT.hart HH (by omega)
    replace A2 := hT.hart A2 (by omega)
    replace A3 := HN
    clear hT HN
    refine W_nil ?_
    refine then_nrm ?_
    show Code.wp Try.prog _ _ _ _
    refine wp_seq ?_
    refine wp_region_held_drew (S := fun wx => Below w41.heap.size w41 wx) (by kernel_rfl) ((Below.refl _ _).drew) (fun hS => ?_)
    refine takeF (i := 0) hA 38 rfl rfl (by decide) rfl (by kernel_rfl) (by kernel_rfl) (by kernel_rfl) (fun _ _ _ h => h) hS (fun wx hx => R_fa hA rfl rfl (fun w => fa_hart _ 7 38 (by decide) rfl w) _) (fun a hA => ?_)
    refine takeF (i := 1) hA 39 rfl rfl (by decide) rfl (by kernel_rfl) (by kernel_rfl) (by kernel_rfl) (fun _ _ _ h => h) hS (fun wx hx => R_ld (v := .int .u64 (t.n 38)) hA rfl rfl ag_u64 ((HH.below hx).u 38 (by decide) (by decide))) (fun a hA => ?_)
    refine takeF (i := 2) hA 40 rfl rfl (by decide) rfl (by kernel_rfl) (by kernel_rfl) (by kernel_rfl) (fun _ _ _ h => h) hS (fun wx hx => R_fa hA rfl rfl (fun w => fa_hart _ 7 38 (by decide) rfl w) _) (fun a hA => ?_)
    refine takeF (i := 3) hA 41 rfl rfl (by decide) rfl (by kernel_rfl) (by kernel_rfl) (by kernel_rfl) (fun _ _ _ h => h) hS (fun wx hx => R_ld (v := .int .u64 (t.n 38)) hA rfl rfl ag_u64 ((HH.below hx).u 38 (by decide) (by decide))) (fun a hA => ?_)
    refine wpAnyH_ready (rs := [4]) (by kernel_rfl) (by simp) (ready_call (i := 4) hA (by decide) rfl (fun _ _ => by kernel_rfl) (args2 hA rfl rfl) (dbitN_any _ (by first | exact ok.n _ | exact hc | exact ht) 7 (by decide) _) (fun _ h => h ▸ hS) (fun w42 hw a hA => ?_) AllReadyH.nil)
    subst hw
    refine wpAnyH_ready (rs := [5]) (by kernel_rfl) (by simp) (ready_call (i := 5) hA (by decide) rfl (fun _ _ => by kernel_rfl) (args3 hA rfl rfl rfl) (dwith_any _ 3 (by decide) _ _) (fun _ h => h ▸ hS) (fun w43 hw a hA => ?_) AllReadyH.nil)
    subst hw
    refine takeF (i := 6) hA 5 rfl rfl (by decide) rfl (by kernel_rfl) (by kernel_rfl) (by kernel_rfl) (fun _ _ _ h => h) hS (fun wx hx => R_asg hA rfl rfl _) (fun a hA => ?_)
    refine wpAnyH_done (by kernel_rfl) ?_ _
    replace HH := HH.below hS
    replace A2 := A2.below hS
    replace A3 := A3.below hS
    replace HB := HB.trans (hS.mono HB.size)
    clear hS
    generalize World.drew w41 = w44 at *
    refine then_nrm ?_
    show Code.wp Try.prog _ _ _ _
    refine wp_seq ?_
    refine wp_region_list ?_
    refine W_val hA rfl 44 rfl (by decide) _ _ (R_mov hA rfl rfl _) (fun a hA => ?_)
    refine W_callA hA (by decide) (fun _ _ => by kernel_rfl) (args3 hA rfl rfl rfl) (dwith_any _ 7 (by decide) _ _) (fun w45 hw a hA => ?_)
    subst hw
    refine W_val hA rfl 5 rfl (by decide) _ _ (R_asg hA rfl rfl _) (fun a hA => ?_)
    refine W_nil ?_
    refine then_nrm ?_
    show Code.wp Try.prog _ _ _ _
    refine wp_seq ?_
    refine wp_region_list ?_
    refine W_val hA rfl 46 rfl (by decide) _ _ (R_mov hA rfl rfl _) (fun a hA => ?_)
    refine W_callA hA (by decide) (fun _ _ => by kernel_rfl) (args3 hA rfl rfl rfl) (dwith_any _ 11 (by decide) _ _) (fun w46 hw a hA => ?_)
    subst hw
    refine W_val hA rfl 5 rfl (by decide) _ _ (R_asg hA rfl rfl _) (fun a hA => ?_)
    refine W_nil ?_
    refine then_nrm ?_
    show Code.wp Try.prog _ _ _ _
    refine wp_seq ?_
    refine wp_region_list ?_
    refine W_val hA rfl 48 rfl (by decide) _ _ (R_mov hA rfl rfl _) (fun a hA => ?_)
    refine W_callA hA (by decide) (fun _ _ => by kernel_rfl) (args3 hA rfl rfl rfl) (dwith_any _ 12 (by decide) _ _) (fun w47 hw a hA => ?_)
    subst hw
    refine W_val hA rfl 5 rfl (by decide) _ _ (R_asg hA rfl rfl _) (fun a hA => ?_)
    refine W_nil ?_
    refine then_nrm ?_
    show Code.wp Try.prog _ _ _ _
    refine wp_seq ?_
    refine wp_region_list ?_
    refine W_val hA rfl 50 rfl (by decide) _ _ (R_mov hA rfl rfl _) (fun a hA => ?_)
    refine W_callA hA (by decide) (fun _ _ => by kernel_rfl) (args3 hA rfl rfl rfl) (dwith_any _ 39 (by decide) _ _) (fun w48 hw a hA => ?_)
    subst hw
    refine W_val hA rfl 5 rfl (by decide) _ _ (R_asg hA rfl rfl _) (fun a hA => ?_)
    refine W_nil ?_
    refine then_nrm ?_
    show Code.wp Try.prog _ _ _ _
    refine wp_seq ?_
    refine wp_seq ?_
    refine wp_region_list ?_
    refine W_val hA rfl 52 rfl (by decide) _ _ (R_mov hA rfl rfl _) (fun a hA => ?_)
    refine W_val hA rfl 53 rfl (by decide) _ _ (R_neqIT hA rfl rfl rfl true (by decide) _) (fun a hA => ?_)
    refine W_nil ?_
    refine then_nrm ?_
    show Code.wp Try.prog _ _ _ _
    refine wp_cond_true (hA.ev (x := .tmp 53) rfl) ?_
    refine wp_region_list ?_
    refine W_val hA rfl 54 rfl (by decide) _ _ (R_mov hA rfl rfl _) (fun a hA => ?_)
    refine W_callA hA (by decide) (fun _ _ => by kernel_rfl) (args3 hA rfl rfl rfl) (dwith_any _ 17 (by decide) _ _) (fun w49 hw a hA => ?_)
    subst hw
    refine W_val hA rfl 5 rfl (by decide) _ _ (R_asg hA rfl rfl _) (fun a hA => ?_)
    refine W_nil ?_
    refine then_nrm ?_
    show Code.wp Try.prog _ _ _ _
    refine wp_seq ?_
    refine wp_region_list ?_
    refine W_val hA rfl 56 rfl (by decide) _ _ (R_mov hA rfl rfl _) (fun a hA => ?_)
    refine W_val hA rfl 57 rfl (by decide) _ _ (R_fa hA rfl rfl (fun w => fa_hart _ 7 38 (by decide) rfl w) _) (fun a hA => ?_)
    refine W_stU hA rfl rfl rfl rfl rfl A3 (by decide) (by decide) (fun w50 hT HN => ?_)
    replace HB := HB.trans (hT.bel _ gA3)
    replace HH := hT.hart HH (by omega)
    replace A2 := hT.hart A2 (by omega)
    replace A3 := HN
    clear hT HN
    refine W_nil ?_
    refine then_nrm ?_
    show Code.wp Try.prog _ _ _ _
    refine wp_seq ?_
    refine wp_region_list ?_
    refine W_val hA rfl 58 rfl (by decide) _ _ (R_fa hA rfl rfl (fun w => fa_hart _ 5 36 (by decide) rfl w) _) (fun a hA => ?_)
    refine W_stHd hA rfl rfl rfl rfl rfl A3 (fun w51 hT HN => ?_)
    replace HB := HB.trans (hT.bel _ gA3)
    replace HH := hT.hart HH (by omega)
    replace A2 := hT.hart A2 (by omega)
    replace A3 := HN
    clear hT HN
    refine W_nil ?_
    refine then_nrm ?_
    show Code.wp Try.prog _ _ _ _
    refine wp_seq ?_
    refine wp_region_list ?_
    refine W_val hA rfl 59 rfl (by decide) _ _ (R_fa hA rfl rfl (fun w => fa_hart _ 6 37 (by decide) rfl w) _) (fun a hA => ?_)
    refine W_stU hA rfl rfl rfl rfl rfl A3 (by decide) (by decide) (fun w52 hT HN => ?_)
    replace HB := HB.trans (hT.bel _ gA3)
    replace HH := hT.hart HH (by omega)
    replace A2 := hT.hart A2 (by omega)
    replace A3 := HN
    clear hT HN
    refine W_nil ?_
    refine then_nrm ?_
    show Code.wp Try.prog _ _ _ _
    refine wp_seq ?_
    refine wp_region_list ?_
    refine W_val hA rfl 60 rfl (by decide) _ _ (R_row hA rfl rfl A3 Try.underlying25 (size_hart.trans (by rw [varr_size]))) (fun a hA => ?_)
    refine W_cpH hA rfl rfl rfl rfl rfl A2 (fun w53 hT HN => ?_)
    replace HB := HB.trans (hT.bel _ gA2)
    replace HH := hT.hart HH (by omega)
    replace A3 := hT.hart A3 (by omega)
    replace A2 := HN
    clear hT HN
    refine W_nil ?_
    refine then_nrm ?_
    show Code.wp Try.prog _ _ _ _
    refine wp_ret ?_
    have em : mppZ (t.n 38) = 2 := by
      unfold mppZ
      rw [c1, c3]
      rfl
    have e1 : stMr (t.n 38) = withZ (withZ (withZ (withZ (withZ (withZ (t.n 38) 3 (bitZ (t.n 38) 7)) 7 (true)) 11 (false)) 12 (false)) 39 (false)) 17 (false) := by
      unfold stMr
      rw [em]
      rfl
    have e2 : privM (t.n 38) = 0 := by
      unfold privM
      rw [em]
      rfl
    have e3 : vM (t.n 38) = bitZ (t.n 38) 39 := by
      unfold vM
      rw [em]
      rfl
    refine ret_hart (j := 2) (by kernel_rfl) hA rfl A2 ⟨congrArg (fun q : HS => Ending.returned (hartV q)) ?_, HB⟩
    unfold mretZ
    rw [e1, e2, e3]
    refine HS.same (fun i => ?_) rfl rfl rfl
    by_cases h0 : i = 0
    · subst h0; rfl
    by_cases h33 : i = 33
    · subst h33; rfl
    by_cases h37 : i = 37
    · subst h37; rfl
    by_cases h38 : i = 38
    · subst h38; rfl
    simp only [mretZ, HS.put, HS.putV, HS.putW, HS.putH, HS.mode, h0, h33, h37, h38, if_false]
  refine wp_skip ?_
  refine then_nrm ?_
  show Code.wp Try.prog _ _ _ _
  refine wp_seq ?_
  refine wp_region_list ?_
  refine W_val hA rfl 20 rfl (by decide) _ _ (R_fa hA rfl rfl (fun w => fa_hart _ 2 33 (by decide) rfl w) _) (fun a hA => ?_)
  refine W_stP hA rfl rfl rfl rfl rfl A3 (fun w54 hT HN => ?_)
  replace HB := HB.trans (hT.bel _ gA3)
  replace HH := hT.hart HH (by omega)
  replace A2 := hT.hart A2 (by omega)
  replace A3 := HN
  clear hT HN
  refine W_nil ?_
  refine then_nrm ?_
  show Code.wp Try.prog _ _ _ _
  refine wp_seq ?_
  refine wp_seq ?_
  refine wp_region_list ?_
  refine W_val hA rfl 21 rfl (by decide) _ _ (R_mov hA rfl rfl _) (fun a hA => ?_)
  refine W_val hA rfl 22 rfl (by decide) _ _ (R_eqlIT hA rfl rfl rfl false (by decide) _) (fun a hA => ?_)
  refine W_val hA rfl 23 rfl (by decide) _ _ (R_mov hA rfl rfl _) (fun a hA => ?_)
  refine W_gval hA rfl rfl rfl 24 rfl (by decide) _ _ (R_mov hA rfl rfl _) (fun a hA => ?_)
  refine W_gval hA rfl rfl rfl 25 rfl (by decide) _ _ (R_eqlIT hA rfl rfl rfl false (by decide) _) (fun a hA => ?_)
  refine W_val hA rfl 26 rfl (by decide) _ _ (R_pick hA rfl rfl rfl _) (fun a hA => ?_)
  refine W_nil ?_
  refine then_nrm ?_
  show Code.wp Try.prog _ _ _ _
  refine wp_cond_false (hA.ev (x := .tmp 26) rfl) ?_
  refine wp_skip ?_
  refine then_nrm ?_
  show Code.wp Try.prog _ _ _ _
  refine wp_seq ?_
  refine wp_region_list ?_
  refine W_val hA rfl 30 rfl (by decide) _ _ (R_mov hA rfl rfl _) (fun a hA => ?_)
  refine W_val hA rfl 31 rfl (by decide) _ _ (R_neqIT hA rfl rfl rfl true (by decide) _) (fun a hA => ?_)
  refine W_val hA rfl 32 rfl (by decide) _ _ (R_mov hA rfl rfl _) (fun a hA => ?_)
  refine W_gval hA rfl rfl rfl 33 rfl (by decide) _ _ (R_fa hA rfl rfl (fun w => fa_hart _ 7 38 (by decide) rfl w) _) (fun a hA => ?_)
  refine W_gval hA rfl rfl rfl 34 rfl (by decide) _ _ (R_ld (v := .int .u64 (t.n 38)) hA rfl rfl ag_u64 (HH.u 38 (by decide) (by decide))) (fun a hA => ?_)
  refine W_gcallB hA rfl rfl (by decide) (fun _ _ => by kernel_rfl) (args2 hA rfl rfl) (dbitN_any _ (by first | exact ok.n _ | exact hc | exact ht) 39 (by decide) _) (fun w55 hw a hA => ?_)
  subst hw
  refine W_val hA rfl 36 rfl (by decide) _ _ (R_pick hA rfl rfl rfl _) (fun a hA => ?_)
  refine W_val hA rfl 37 rfl (by decide) _ _ (R_fa hA rfl rfl (fun w => fa_hart _ 3 34 (by decide) rfl w) _) (fun a hA => ?_)
  refine W_stV hA rfl rfl rfl rfl rfl A3 (fun w56 hT HN => ?_)
  replace HB := HB.trans (hT.bel _ gA3)
  replace HH := hT.hart HH (by omega)
  replace A2 := hT.hart A2 (by omega)
  replace A3 := HN
  clear hT HN
  refine W_nil ?_
  refine then_nrm ?_
  show Code.wp Try.prog _ _ _ _
  refine wp_seq ?_
  refine wp_region_held_drew (S := fun wx => Below w56.heap.size w56 wx) (by kernel_rfl) ((Below.refl _ _).drew) (fun hS => ?_)
  refine takeF (i := 0) hA 38 rfl rfl (by decide) rfl (by kernel_rfl) (by kernel_rfl) (by kernel_rfl) (fun _ _ _ h => h) hS (fun wx hx => R_fa hA rfl rfl (fun w => fa_hart _ 7 38 (by decide) rfl w) _) (fun a hA => ?_)
  refine takeF (i := 1) hA 39 rfl rfl (by decide) rfl (by kernel_rfl) (by kernel_rfl) (by kernel_rfl) (fun _ _ _ h => h) hS (fun wx hx => R_ld (v := .int .u64 (t.n 38)) hA rfl rfl ag_u64 ((HH.below hx).u 38 (by decide) (by decide))) (fun a hA => ?_)
  refine takeF (i := 2) hA 40 rfl rfl (by decide) rfl (by kernel_rfl) (by kernel_rfl) (by kernel_rfl) (fun _ _ _ h => h) hS (fun wx hx => R_fa hA rfl rfl (fun w => fa_hart _ 7 38 (by decide) rfl w) _) (fun a hA => ?_)
  refine takeF (i := 3) hA 41 rfl rfl (by decide) rfl (by kernel_rfl) (by kernel_rfl) (by kernel_rfl) (fun _ _ _ h => h) hS (fun wx hx => R_ld (v := .int .u64 (t.n 38)) hA rfl rfl ag_u64 ((HH.below hx).u 38 (by decide) (by decide))) (fun a hA => ?_)
  refine wpAnyH_ready (rs := [4]) (by kernel_rfl) (by simp) (ready_call (i := 4) hA (by decide) rfl (fun _ _ => by kernel_rfl) (args2 hA rfl rfl) (dbitN_any _ (by first | exact ok.n _ | exact hc | exact ht) 7 (by decide) _) (fun _ h => h ▸ hS) (fun w57 hw a hA => ?_) AllReadyH.nil)
  subst hw
  refine wpAnyH_ready (rs := [5]) (by kernel_rfl) (by simp) (ready_call (i := 5) hA (by decide) rfl (fun _ _ => by kernel_rfl) (args3 hA rfl rfl rfl) (dwith_any _ 3 (by decide) _ _) (fun _ h => h ▸ hS) (fun w58 hw a hA => ?_) AllReadyH.nil)
  subst hw
  refine takeF (i := 6) hA 5 rfl rfl (by decide) rfl (by kernel_rfl) (by kernel_rfl) (by kernel_rfl) (fun _ _ _ h => h) hS (fun wx hx => R_asg hA rfl rfl _) (fun a hA => ?_)
  refine wpAnyH_done (by kernel_rfl) ?_ _
  replace HH := HH.below hS
  replace A2 := A2.below hS
  replace A3 := A3.below hS
  replace HB := HB.trans (hS.mono HB.size)
  clear hS
  generalize World.drew w56 = w59 at *
  refine then_nrm ?_
  show Code.wp Try.prog _ _ _ _
  refine wp_seq ?_
  refine wp_region_list ?_
  refine W_val hA rfl 44 rfl (by decide) _ _ (R_mov hA rfl rfl _) (fun a hA => ?_)
  refine W_callA hA (by decide) (fun _ _ => by kernel_rfl) (args3 hA rfl rfl rfl) (dwith_any _ 7 (by decide) _ _) (fun w60 hw a hA => ?_)
  subst hw
  refine W_val hA rfl 5 rfl (by decide) _ _ (R_asg hA rfl rfl _) (fun a hA => ?_)
  refine W_nil ?_
  refine then_nrm ?_
  show Code.wp Try.prog _ _ _ _
  refine wp_seq ?_
  refine wp_region_list ?_
  refine W_val hA rfl 46 rfl (by decide) _ _ (R_mov hA rfl rfl _) (fun a hA => ?_)
  refine W_callA hA (by decide) (fun _ _ => by kernel_rfl) (args3 hA rfl rfl rfl) (dwith_any _ 11 (by decide) _ _) (fun w61 hw a hA => ?_)
  subst hw
  refine W_val hA rfl 5 rfl (by decide) _ _ (R_asg hA rfl rfl _) (fun a hA => ?_)
  refine W_nil ?_
  refine then_nrm ?_
  show Code.wp Try.prog _ _ _ _
  refine wp_seq ?_
  refine wp_region_list ?_
  refine W_val hA rfl 48 rfl (by decide) _ _ (R_mov hA rfl rfl _) (fun a hA => ?_)
  refine W_callA hA (by decide) (fun _ _ => by kernel_rfl) (args3 hA rfl rfl rfl) (dwith_any _ 12 (by decide) _ _) (fun w62 hw a hA => ?_)
  subst hw
  refine W_val hA rfl 5 rfl (by decide) _ _ (R_asg hA rfl rfl _) (fun a hA => ?_)
  refine W_nil ?_
  refine then_nrm ?_
  show Code.wp Try.prog _ _ _ _
  refine wp_seq ?_
  refine wp_region_list ?_
  refine W_val hA rfl 50 rfl (by decide) _ _ (R_mov hA rfl rfl _) (fun a hA => ?_)
  refine W_callA hA (by decide) (fun _ _ => by kernel_rfl) (args3 hA rfl rfl rfl) (dwith_any _ 39 (by decide) _ _) (fun w63 hw a hA => ?_)
  subst hw
  refine W_val hA rfl 5 rfl (by decide) _ _ (R_asg hA rfl rfl _) (fun a hA => ?_)
  refine W_nil ?_
  refine then_nrm ?_
  show Code.wp Try.prog _ _ _ _
  refine wp_seq ?_
  refine wp_seq ?_
  refine wp_region_list ?_
  refine W_val hA rfl 52 rfl (by decide) _ _ (R_mov hA rfl rfl _) (fun a hA => ?_)
  refine W_val hA rfl 53 rfl (by decide) _ _ (R_neqIT hA rfl rfl rfl true (by decide) _) (fun a hA => ?_)
  refine W_nil ?_
  refine then_nrm ?_
  show Code.wp Try.prog _ _ _ _
  refine wp_cond_true (hA.ev (x := .tmp 53) rfl) ?_
  refine wp_region_list ?_
  refine W_val hA rfl 54 rfl (by decide) _ _ (R_mov hA rfl rfl _) (fun a hA => ?_)
  refine W_callA hA (by decide) (fun _ _ => by kernel_rfl) (args3 hA rfl rfl rfl) (dwith_any _ 17 (by decide) _ _) (fun w64 hw a hA => ?_)
  subst hw
  refine W_val hA rfl 5 rfl (by decide) _ _ (R_asg hA rfl rfl _) (fun a hA => ?_)
  refine W_nil ?_
  refine then_nrm ?_
  show Code.wp Try.prog _ _ _ _
  refine wp_seq ?_
  refine wp_region_list ?_
  refine W_val hA rfl 56 rfl (by decide) _ _ (R_mov hA rfl rfl _) (fun a hA => ?_)
  refine W_val hA rfl 57 rfl (by decide) _ _ (R_fa hA rfl rfl (fun w => fa_hart _ 7 38 (by decide) rfl w) _) (fun a hA => ?_)
  refine W_stU hA rfl rfl rfl rfl rfl A3 (by decide) (by decide) (fun w65 hT HN => ?_)
  replace HB := HB.trans (hT.bel _ gA3)
  replace HH := hT.hart HH (by omega)
  replace A2 := hT.hart A2 (by omega)
  replace A3 := HN
  clear hT HN
  refine W_nil ?_
  refine then_nrm ?_
  show Code.wp Try.prog _ _ _ _
  refine wp_seq ?_
  refine wp_region_list ?_
  refine W_val hA rfl 58 rfl (by decide) _ _ (R_fa hA rfl rfl (fun w => fa_hart _ 5 36 (by decide) rfl w) _) (fun a hA => ?_)
  refine W_stHd hA rfl rfl rfl rfl rfl A3 (fun w66 hT HN => ?_)
  replace HB := HB.trans (hT.bel _ gA3)
  replace HH := hT.hart HH (by omega)
  replace A2 := hT.hart A2 (by omega)
  replace A3 := HN
  clear hT HN
  refine W_nil ?_
  refine then_nrm ?_
  show Code.wp Try.prog _ _ _ _
  refine wp_seq ?_
  refine wp_region_list ?_
  refine W_val hA rfl 59 rfl (by decide) _ _ (R_fa hA rfl rfl (fun w => fa_hart _ 6 37 (by decide) rfl w) _) (fun a hA => ?_)
  refine W_stU hA rfl rfl rfl rfl rfl A3 (by decide) (by decide) (fun w67 hT HN => ?_)
  replace HB := HB.trans (hT.bel _ gA3)
  replace HH := hT.hart HH (by omega)
  replace A2 := hT.hart A2 (by omega)
  replace A3 := HN
  clear hT HN
  refine W_nil ?_
  refine then_nrm ?_
  show Code.wp Try.prog _ _ _ _
  refine wp_seq ?_
  refine wp_region_list ?_
  refine W_val hA rfl 60 rfl (by decide) _ _ (R_row hA rfl rfl A3 Try.underlying25 (size_hart.trans (by rw [varr_size]))) (fun a hA => ?_)
  refine W_cpH hA rfl rfl rfl rfl rfl A2 (fun w68 hT HN => ?_)
  replace HB := HB.trans (hT.bel _ gA2)
  replace HH := hT.hart HH (by omega)
  replace A3 := hT.hart A3 (by omega)
  replace A2 := HN
  clear hT HN
  refine W_nil ?_
  refine then_nrm ?_
  show Code.wp Try.prog _ _ _ _
  refine wp_ret ?_
  have em : mppZ (t.n 38) = 0 := by
    unfold mppZ
    rw [c1, c3]
    rfl
  have e1 : stMr (t.n 38) = withZ (withZ (withZ (withZ (withZ (withZ (t.n 38) 3 (bitZ (t.n 38) 7)) 7 (true)) 11 (false)) 12 (false)) 39 (false)) 17 (false) := by
    unfold stMr
    rw [em]
    rfl
  have e2 : privM (t.n 38) = 0 := by
    unfold privM
    rw [em]
    rfl
  have e3 : vM (t.n 38) = bitZ (t.n 38) 39 := by
    unfold vM
    rw [em]
    rfl
  refine ret_hart (j := 2) (by kernel_rfl) hA rfl A2 ⟨congrArg (fun q : HS => Ending.returned (hartV q)) ?_, HB⟩
  unfold mretZ
  rw [e1, e2, e3]
  refine HS.same (fun i => ?_) rfl rfl rfl
  by_cases h0 : i = 0
  · subst h0; rfl
  by_cases h33 : i = 33
  · subst h33; rfl
  by_cases h37 : i = 37
  · subst h37; rfl
  by_cases h38 : i = 38
  · subst h38; rfl
  simp only [mretZ, HS.put, HS.putV, HS.putW, HS.putH, HS.mode, h0, h33, h37, h38, if_false]
set_option maxHeartbeats 8000000 in
theorem sret_any (t : HS) (ok : HOk t) (w : World) : Calls Try.prog 15 #[hartV t] w fun e w' => e = .returned (hartV (sretZ t)) ∧ Below w.heap.size w w' := by
  have HB := Below.refl w.heap.size w
  go_enter Try.func15, Try.ntmps15
  refine begin_fr [(0, hartV t)] 44 ?_ (fun a hA => ?_)
  · exact FrA.add (FrA.nil (by rfl) (by rfl)) 0 _ (by rfl)
  refine wp_seq ?_
  refine wp_region_list ?_
  refine W_boxH hA rfl 1 rfl (by decide) rfl rfl (fun w1 bHH a hA hb HH gHH => ?_)
  replace gHH := Nat.le_trans HB.size gHH
  replace HB := HB.trans (hb.mono HB.size)
  clear hb
  refine W_allocH hA rfl 2 rfl (by decide) rfl (fun w2 bA2 a hA hb A2 gA2 => ?_)
  have nHHA2 : bHH < bA2 := by have := HH.lt; omega
  replace gA2 := Nat.le_trans HB.size gA2
  replace HB := HB.trans (hb.mono HB.size)
  replace HH := HH.below hb
  clear hb
  refine W_nil ?_
  refine then_nrm ?_
  show Code.wp Try.prog _ _ _ _
  refine wp_seq ?_
  refine wp_seq ?_
  refine wp_region_list ?_
  refine W_val hA rfl 3 rfl (by decide) _ _ (R_fa hA rfl rfl (fun w => fa_hart _ 3 34 (by decide) rfl w) _) (fun a hA => ?_)
  refine W_val hA rfl 4 rfl (by decide) _ _ (R_ld (v := .bool (t.v)) hA rfl rfl ag_bool HH.v) (fun a hA => ?_)
  refine W_nil ?_
  refine then_nrm ?_
  show Code.wp Try.prog _ _ _ _
  refine wp_cond_split (hA.ev (x := .tmp 4) rfl) (fun c1 => ?_) (fun c1 => ?_)
  · skip
    refine wp_seq ?_
    have hN := NearH.new (hart_drew HH) [68, 71] false (X := fun _ => True) trivial
    refine region_near hN (fun hN => ?_)
    replace HB := HB.drew
    replace HH := hart_drew HH
    replace A2 := hart_drew A2
    generalize World.drew w2 = w3 at *
    refine takeF (i := 0) hA 5 rfl rfl (by decide) rfl (by kernel_rfl) (by kernel_rfl) (by kernel_rfl) (fun _ _ _ h => h) hN (fun wx hx => R_fa hA rfl rfl (fun w => fa_hart _ 40 71 (by decide) rfl w) _) (fun a hA => ?_)
    refine takeF (i := 1) hA 6 rfl rfl (by decide) rfl (by kernel_rfl) (by kernel_rfl) (by kernel_rfl) (fun _ _ _ h => h) hN (fun wx hx => R_ld (v := .int .u64 (t.n 71)) hA rfl rfl ag_u64 ((NearH.u hx 71 (by decide) (by decide) (by decide)).trans rfl)) (fun a hA => ?_)
    refine takeF (i := 2) hA 7 rfl rfl (by decide) rfl (by kernel_rfl) (by kernel_rfl) (by kernel_rfl) (fun _ _ _ h => h) hN (fun wx hx => R_fa hA rfl rfl (fun w => fa_hart _ 37 68 (by decide) rfl w) _) (fun a hA => ?_)
    refine takeF (i := 3) hA 8 rfl rfl (by decide) rfl (by kernel_rfl) (by kernel_rfl) (by kernel_rfl) (fun _ _ _ h => h) hN (fun wx hx => R_ld (v := .int .u64 (t.n 68)) hA rfl rfl ag_u64 ((NearH.u hx 68 (by decide) (by decide) (by decide)).trans rfl)) (fun a hA => ?_)
    refine ready_nC (i := 4) (by kernel_rfl) hA (by decide) rfl (fun _ _ => by kernel_rfl) (args1 hA rfl) (came_any _ _) hN (fun a hA => ?_)
    refine takeF (i := 5) hA 10 rfl rfl (by decide) rfl (by kernel_rfl) (by kernel_rfl) (by kernel_rfl) (fun _ _ _ h => h) hN (fun wx hx => R_fa hA rfl rfl (fun w => fa_hart _ 0 0 (by decide) rfl w) _) (fun a hA => ?_)
    refine ready_nU (i := 6) (by kernel_rfl) hA rfl rfl rfl rfl rfl rfl HH (by decide) (by decide) hN (by decide) (stays_true _) (fun w4 hT HN hN => ?_)
    replace HB := HB.trans (hT.bel _ gHH)
    replace A2 := hT.hart A2 (by omega)
    replace HH := HN
    clear hT HN
    refine takeF (i := 7) hA 11 rfl rfl (by decide) rfl (by kernel_rfl) (by kernel_rfl) (by kernel_rfl) (fun _ _ _ h => h) hN (fun wx hx => R_fa hA rfl rfl (fun w => fa_hart _ 2 33 (by decide) rfl w) _) (fun a hA => ?_)
    refine ready_nP (i := 8) (by kernel_rfl) hA rfl rfl rfl rfl rfl rfl HH hN (by decide) (stays_true _) (fun w5 hT HN hN => ?_)
    replace HB := HB.trans (hT.bel _ gHH)
    replace A2 := hT.hart A2 (by omega)
    replace HH := HN
    clear hT HN
    refine wpAnyH_done (by kernel_rfl) ?_ _
    clear hN
    refine then_nrm ?_
    show Code.wp Try.prog _ _ _ _
    refine wp_region_list ?_
    refine W_val hA rfl 12 rfl (by decide) _ _ (R_fa hA rfl rfl (fun w => fa_hart _ 37 68 (by decide) rfl w) _) (fun a hA => ?_)
    refine W_val hA rfl 13 rfl (by decide) _ _ (R_ld (v := .int .u64 (t.n 68)) hA rfl rfl ag_u64 (HH.u 68 (by decide) (by decide))) (fun a hA => ?_)
    refine W_callA hA (by decide) (fun _ _ => by kernel_rfl) (args3 hA rfl rfl rfl) (open_any _ 1 5 (by decide) (by decide) _ _ (by decide) (by decide) _) (fun w6 hw a hA => ?_)
    subst hw
    refine W_val hA rfl 15 rfl (by decide) _ _ (R_andNT hA rfl rfl rfl (withZ (withZ (withZ (t.n 68) 1 (bitZ (t.n 68) 5)) 5 true) 8 false) (andNot_with 8 (by decide)) _) (fun a hA => ?_)
    refine W_val hA rfl 16 rfl (by decide) _ _ (R_fa hA rfl rfl (fun w => fa_hart _ 37 68 (by decide) rfl w) _) (fun a hA => ?_)
    refine W_stU hA rfl rfl rfl rfl rfl HH (by decide) (by decide) (fun w7 hT HN => ?_)
    replace HB := HB.trans (hT.bel _ gHH)
    replace A2 := hT.hart A2 (by omega)
    replace HH := HN
    clear hT HN
    refine W_nil ?_
    refine then_nrm ?_
    show Code.wp Try.prog _ _ _ _
    refine wp_seq ?_
    refine wp_region_list ?_
    refine W_val hA rfl 38 rfl (by decide) _ _ (R_fa hA rfl rfl (fun w => fa_hart _ 7 38 (by decide) rfl w) _) (fun a hA => ?_)
    refine W_val hA rfl 39 rfl (by decide) _ _ (R_ld (v := .int .u64 (t.n 38)) hA rfl rfl ag_u64 (HH.u 38 (by decide) (by decide))) (fun a hA => ?_)
    refine W_val hA rfl 40 rfl (by decide) _ _ (R_andNT hA rfl rfl rfl (withZ (t.n 38) 17 false) (andNot_with 17 (by decide)) _) (fun a hA => ?_)
    refine W_val hA rfl 41 rfl (by decide) _ _ (R_fa hA rfl rfl (fun w => fa_hart _ 7 38 (by decide) rfl w) _) (fun a hA => ?_)
    refine W_stU hA rfl rfl rfl rfl rfl HH (by decide) (by decide) (fun w8 hT HN => ?_)
    replace HB := HB.trans (hT.bel _ gHH)
    replace A2 := hT.hart A2 (by omega)
    replace HH := HN
    clear hT HN
    refine W_nil ?_
    refine then_nrm ?_
    show Code.wp Try.prog _ _ _ _
    refine wp_seq ?_
    refine wp_region_list ?_
    refine W_callA hA (by decide) (fun _ _ => by kernel_rfl) (args1 hA rfl) (letGo_any _ HH) (fun w9 hw a hA => ?_)
    obtain ⟨HN, hG⟩ := hw
    replace HB := HB.trans (hG.bel _ gHH)
    replace A2 := hG.hart A2 (by omega)
    replace HH := HN
    clear hG HN
    refine W_nil ?_
    refine then_nrm ?_
    show Code.wp Try.prog _ _ _ _
    refine wp_seq ?_
    refine wp_region_list ?_
    refine W_val hA rfl 43 rfl (by decide) _ _ (R_row hA rfl rfl HH Try.underlying25 (size_hart.trans (by rw [varr_size]))) (fun a hA => ?_)
    refine W_cpH hA rfl rfl rfl rfl rfl A2 (fun w10 hT HN => ?_)
    replace HB := HB.trans (hT.bel _ gA2)
    replace HH := hT.hart HH (by omega)
    replace A2 := HN
    clear hT HN
    refine W_nil ?_
    refine then_nrm ?_
    show Code.wp Try.prog _ _ _ _
    refine wp_ret ?_
    refine ret_hart (j := 2) (by kernel_rfl) hA rfl A2 ⟨congrArg (fun q : HS => Ending.returned (hartV q)) ?_, HB⟩
    unfold sretZ
    rw [c1]
    rw [if_pos rfl]
    refine HS.same (fun i => ?_) c1 rfl rfl
    by_cases h0 : i = 0
    · subst h0; rfl
    by_cases h33 : i = 33
    · subst h33; rfl
    by_cases h37 : i = 37
    · subst h37; rfl
    by_cases h38 : i = 38
    · subst h38; rfl
    by_cases h68 : i = 68
    · subst h68; rfl
    simp only [sretZ, HS.put, HS.putV, HS.putW, HS.putH, HS.mode, h0, h33, h37, h38, h68, if_false]
  refine wp_seq ?_
  have hN := NearH.new (hart_drew HH) [38, 54, 58] false (X := fun _ => True) trivial
  refine region_near hN (fun hN => ?_)
  replace HB := HB.drew
  replace HH := hart_drew HH
  replace A2 := hart_drew A2
  generalize World.drew w2 = w11 at *
  refine takeF (i := 0) hA 17 rfl rfl (by decide) rfl (by kernel_rfl) (by kernel_rfl) (by kernel_rfl) (fun _ _ _ h => h) hN (fun wx hx => R_fa hA rfl rfl (fun w => fa_hart _ 23 54 (by decide) rfl w) _) (fun a hA => ?_)
  refine takeF (i := 1) hA 18 rfl rfl (by decide) rfl (by kernel_rfl) (by kernel_rfl) (by kernel_rfl) (fun _ _ _ h => h) hN (fun wx hx => R_ld (v := .int .u64 (t.n 54)) hA rfl rfl ag_u64 ((NearH.u hx 54 (by decide) (by decide) (by decide)).trans rfl)) (fun a hA => ?_)
  refine takeF (i := 2) hA 19 rfl rfl (by decide) rfl (by kernel_rfl) (by kernel_rfl) (by kernel_rfl) (fun _ _ _ h => h) hN (fun wx hx => R_fa hA rfl rfl (fun w => fa_hart _ 7 38 (by decide) rfl w) _) (fun a hA => ?_)
  refine takeF (i := 3) hA 20 rfl rfl (by decide) rfl (by kernel_rfl) (by kernel_rfl) (by kernel_rfl) (fun _ _ _ h => h) hN (fun wx hx => R_ld (v := .int .u64 (t.n 38)) hA rfl rfl ag_u64 ((NearH.u hx 38 (by decide) (by decide) (by decide)).trans rfl)) (fun a hA => ?_)
  refine takeF (i := 5) hA 22 rfl rfl (by decide) rfl (by kernel_rfl) (by kernel_rfl) (by kernel_rfl) (fun _ _ _ h => h) hN (fun wx hx => R_fa hA rfl rfl (fun w => fa_hart _ 27 58 (by decide) rfl w) _) (fun a hA => ?_)
  refine takeF (i := 6) hA 23 rfl rfl (by decide) rfl (by kernel_rfl) (by kernel_rfl) (by kernel_rfl) (fun _ _ _ h => h) hN (fun wx hx => R_ld (v := .int .u64 (t.n 58)) hA rfl rfl ag_u64 ((NearH.u hx 58 (by decide) (by decide) (by decide)).trans rfl)) (fun a hA => ?_)
  refine takeF (i := 7) hA 24 rfl rfl (by decide) rfl (by kernel_rfl) (by kernel_rfl) (by kernel_rfl) (fun _ _ _ h => h) hN (fun wx hx => R_and hA rfl rfl rfl _) (fun a hA => ?_)
  refine takeF (i := 8) hA 25 rfl rfl (by decide) rfl (by kernel_rfl) (by kernel_rfl) (by kernel_rfl) (fun _ _ _ h => h) hN (fun wx hx => R_neqUT hA rfl rfl rfl (bitZ (t.n 58) 7) (ne_bit _ _ 7 (by decide) (by decide)) _) (fun a hA => ?_)
  refine ready_nC (i := 4) (by kernel_rfl) hA (by decide) rfl (fun _ _ => by kernel_rfl) (args1 hA rfl) (came_any _ _) hN (fun a hA => ?_)
  refine takeF (i := 9) hA 26 rfl rfl (by decide) rfl (by kernel_rfl) (by kernel_rfl) (by kernel_rfl) (fun _ _ _ h => h) hN (fun wx hx => R_fa hA rfl rfl (fun w => fa_hart _ 0 0 (by decide) rfl w) _) (fun a hA => ?_)
  refine ready_nU (i := 10) (by kernel_rfl) hA rfl rfl rfl rfl rfl rfl HH (by decide) (by decide) hN (by decide) (stays_true _) (fun w12 hT HN hN => ?_)
  replace HB := HB.trans (hT.bel _ gHH)
  replace A2 := hT.hart A2 (by omega)
  replace HH := HN
  clear hT HN
  refine takeF (i := 11) hA 27 rfl rfl (by decide) rfl (by kernel_rfl) (by kernel_rfl) (by kernel_rfl) (fun _ _ _ h => h) hN (fun wx hx => R_fa hA rfl rfl (fun w => fa_hart _ 2 33 (by decide) rfl w) _) (fun a hA => ?_)
  refine ready_nP (i := 12) (by kernel_rfl) hA rfl rfl rfl rfl rfl rfl HH hN (by decide) (stays_true _) (fun w13 hT HN hN => ?_)
  replace HB := HB.trans (hT.bel _ gHH)
  replace A2 := hT.hart A2 (by omega)
  replace HH := HN
  clear hT HN
  refine takeF (i := 13) hA 28 rfl rfl (by decide) rfl (by kernel_rfl) (by kernel_rfl) (by kernel_rfl) (fun _ _ _ h => h) hN (fun wx hx => R_fa hA rfl rfl (fun w => fa_hart _ 3 34 (by decide) rfl w) _) (fun a hA => ?_)
  refine ready_nV (i := 14) (by kernel_rfl) hA rfl rfl rfl rfl rfl rfl HH hN (stays_true _) (fun w14 hT HN hN => ?_)
  replace HB := HB.trans (hT.bel _ gHH)
  replace A2 := hT.hart A2 (by omega)
  replace HH := HN
  clear hT HN
  refine wpAnyH_done (by kernel_rfl) ?_ _
  clear hN
  refine then_nrm ?_
  show Code.wp Try.prog _ _ _ _
  refine wp_seq ?_
  refine wp_region_list ?_
  refine W_val hA rfl 29 rfl (by decide) _ _ (R_fa hA rfl rfl (fun w => fa_hart _ 7 38 (by decide) rfl w) _) (fun a hA => ?_)
  refine W_val hA rfl 30 rfl (by decide) _ _ (R_ld (v := .int .u64 (t.n 38)) hA rfl rfl ag_u64 (HH.u 38 (by decide) (by decide))) (fun a hA => ?_)
  refine W_callA hA (by decide) (fun _ _ => by kernel_rfl) (args3 hA rfl rfl rfl) (open_any _ 1 5 (by decide) (by decide) _ _ (by decide) (by decide) _) (fun w15 hw a hA => ?_)
  subst hw
  refine W_val hA rfl 32 rfl (by decide) _ _ (R_andNT hA rfl rfl rfl (withZ (withZ (withZ (t.n 38) 1 (bitZ (t.n 38) 5)) 5 true) 8 false) (andNot_with 8 (by decide)) _) (fun a hA => ?_)
  refine W_val hA rfl 33 rfl (by decide) _ _ (R_fa hA rfl rfl (fun w => fa_hart _ 7 38 (by decide) rfl w) _) (fun a hA => ?_)
  refine W_stU hA rfl rfl rfl rfl rfl HH (by decide) (by decide) (fun w16 hT HN => ?_)
  replace HB := HB.trans (hT.bel _ gHH)
  replace A2 := hT.hart A2 (by omega)
  replace HH := HN
  clear hT HN
  refine W_nil ?_
  refine then_nrm ?_
  show Code.wp Try.prog _ _ _ _
  refine wp_region_list ?_
  refine W_val hA rfl 34 rfl (by decide) _ _ (R_fa hA rfl rfl (fun w => fa_hart _ 27 58 (by decide) rfl w) _) (fun a hA => ?_)
  refine W_val hA rfl 35 rfl (by decide) _ _ (R_ld (v := .int .u64 (t.n 58)) hA rfl rfl ag_u64 (HH.u 58 (by decide) (by decide))) (fun a hA => ?_)
  refine W_val hA rfl 36 rfl (by decide) _ _ (R_andNT hA rfl rfl rfl (withZ (t.n 58) 7 false) (andNot_with 7 (by decide)) _) (fun a hA => ?_)
  refine W_val hA rfl 37 rfl (by decide) _ _ (R_fa hA rfl rfl (fun w => fa_hart _ 27 58 (by decide) rfl w) _) (fun a hA => ?_)
  refine W_stU hA rfl rfl rfl rfl rfl HH (by decide) (by decide) (fun w17 hT HN => ?_)
  replace HB := HB.trans (hT.bel _ gHH)
  replace A2 := hT.hart A2 (by omega)
  replace HH := HN
  clear hT HN
  refine W_nil ?_
  refine then_nrm ?_
  show Code.wp Try.prog _ _ _ _
  refine wp_seq ?_
  refine wp_region_list ?_
  refine W_val hA rfl 38 rfl (by decide) _ _ (R_fa hA rfl rfl (fun w => fa_hart _ 7 38 (by decide) rfl w) _) (fun a hA => ?_)
  refine W_val hA rfl 39 rfl (by decide) _ _ (R_ld (v := .int .u64 (withZ (withZ (withZ (t.n 38) 1 (bitZ (t.n 38) 5)) 5 true) 8 false)) hA rfl rfl ag_u64 (HH.u 38 (by decide) (by decide))) (fun a hA => ?_)
  refine W_val hA rfl 40 rfl (by decide) _ _ (R_andNT hA rfl rfl rfl (withZ (withZ (withZ (withZ (t.n 38) 1 (bitZ (t.n 38) 5)) 5 true) 8 false) 17 false) (andNot_with 17 (by decide)) _) (fun a hA => ?_)
  refine W_val hA rfl 41 rfl (by decide) _ _ (R_fa hA rfl rfl (fun w => fa_hart _ 7 38 (by decide) rfl w) _) (fun a hA => ?_)
  refine W_stU hA rfl rfl rfl rfl rfl HH (by decide) (by decide) (fun w18 hT HN => ?_)
  replace HB := HB.trans (hT.bel _ gHH)
  replace A2 := hT.hart A2 (by omega)
  replace HH := HN
  clear hT HN
  refine W_nil ?_
  refine then_nrm ?_
  show Code.wp Try.prog _ _ _ _
  refine wp_seq ?_
  refine wp_region_list ?_
  refine W_callA hA (by decide) (fun _ _ => by kernel_rfl) (args1 hA rfl) (letGo_any _ HH) (fun w19 hw a hA => ?_)
  obtain ⟨HN, hG⟩ := hw
  replace HB := HB.trans (hG.bel _ gHH)
  replace A2 := hG.hart A2 (by omega)
  replace HH := HN
  clear hG HN
  refine W_nil ?_
  refine then_nrm ?_
  show Code.wp Try.prog _ _ _ _
  refine wp_seq ?_
  refine wp_region_list ?_
  refine W_val hA rfl 43 rfl (by decide) _ _ (R_row hA rfl rfl HH Try.underlying25 (size_hart.trans (by rw [varr_size]))) (fun a hA => ?_)
  refine W_cpH hA rfl rfl rfl rfl rfl A2 (fun w20 hT HN => ?_)
  replace HB := HB.trans (hT.bel _ gA2)
  replace HH := hT.hart HH (by omega)
  replace A2 := HN
  clear hT HN
  refine W_nil ?_
  refine then_nrm ?_
  show Code.wp Try.prog _ _ _ _
  refine wp_ret ?_
  refine ret_hart (j := 2) (by kernel_rfl) hA rfl A2 ⟨congrArg (fun q : HS => Ending.returned (hartV q)) ?_, HB⟩
  unfold sretZ
  rw [c1]
  rw [if_neg (by decide)]
  refine HS.same (fun i => ?_) rfl rfl rfl
  by_cases h0 : i = 0
  · subst h0; rfl
  by_cases h33 : i = 33
  · subst h33; rfl
  by_cases h37 : i = 37
  · subst h37; rfl
  by_cases h38 : i = 38
  · subst h38; rfl
  by_cases h58 : i = 58
  · subst h58; rfl
  simp only [sretZ, HS.put, HS.putV, HS.putW, HS.putH, HS.mode, h0, h33, h37, h38, h58, if_false]
set_option maxHeartbeats 8000000 in
theorem dsret_any (t : HS) (ok : HOk t) (w : World) : Calls Try.prog 16 #[hartV t] w fun e w' => e = .returned (hartV (sretZ t)) ∧ Below w.heap.size w w' := by
  have HB := Below.refl w.heap.size w
  go_enter Try.func16, Try.ntmps16
  refine begin_fr [(0, hartV t)] 65 ?_ (fun a hA => ?_)
  · exact FrA.add (FrA.nil (by rfl) (by rfl)) 0 _ (by rfl)
  refine wp_seq ?_
  refine wp_region_list ?_
  refine W_boxH hA rfl 1 rfl (by decide) rfl rfl (fun w1 bHH a hA hb HH gHH => ?_)
  replace gHH := Nat.le_trans HB.size gHH
  replace HB := HB.trans (hb.mono HB.size)
  clear hb
  refine W_allocH hA rfl 2 rfl (by decide) rfl (fun w2 bA2 a hA hb A2 gA2 => ?_)
  have nHHA2 : bHH < bA2 := by have := HH.lt; omega
  replace gA2 := Nat.le_trans HB.size gA2
  replace HB := HB.trans (hb.mono HB.size)
  replace HH := HH.below hb
  clear hb
  refine W_nil ?_
  refine then_nrm ?_
  show Code.wp Try.prog _ _ _ _
  refine wp_seq ?_
  refine wp_region_list ?_
  refine W_val hA rfl 6 rfl (by decide) _ _ (R_row hA rfl rfl HH Try.underlying25 (size_hart.trans (by rw [varr_size]))) (fun a hA => ?_)
  refine W_allocH hA rfl 3 rfl (by decide) rfl (fun w3 bA3 a hA hb A3 gA3 => ?_)
  have nHHA3 : bHH < bA3 := by have := HH.lt; omega
  have nA2A3 : bA2 < bA3 := by have := A2.lt; omega
  replace gA3 := Nat.le_trans HB.size gA3
  replace HB := HB.trans (hb.mono HB.size)
  replace HH := HH.below hb
  replace A2 := A2.below hb
  clear hb
  refine W_cpH hA rfl rfl rfl rfl rfl A3 (fun w4 hT HN => ?_)
  replace HB := HB.trans (hT.bel _ gA3)
  replace HH := hT.hart HH (by omega)
  replace A2 := hT.hart A2 (by omega)
  replace A3 := HN
  clear hT HN
  refine W_nil ?_
  refine then_nrm ?_
  show Code.wp Try.prog _ _ _ _
  refine wp_seq ?_
  refine wp_region_list ?_
  refine W_val hA rfl 7 rfl (by decide) _ _ (R_fa hA rfl rfl (fun w => fa_hart _ 5 36 (by decide) rfl w) _) (fun a hA => ?_)
  refine W_stHd hA rfl rfl rfl rfl rfl A3 (fun w5 hT HN => ?_)
  replace HB := HB.trans (hT.bel _ gA3)
  replace HH := hT.hart HH (by omega)
  replace A2 := hT.hart A2 (by omega)
  replace A3 := HN
  clear hT HN
  refine W_nil ?_
  refine then_nrm ?_
  show Code.wp Try.prog _ _ _ _
  refine wp_seq ?_
  refine wp_region_list ?_
  refine W_val hA rfl 8 rfl (by decide) _ _ (R_fa hA rfl rfl (fun w => fa_hart _ 6 37 (by decide) rfl w) _) (fun a hA => ?_)
  refine W_stU hA rfl rfl rfl rfl rfl A3 (by decide) (by decide) (fun w6 hT HN => ?_)
  replace HB := HB.trans (hT.bel _ gA3)
  replace HH := hT.hart HH (by omega)
  replace A2 := hT.hart A2 (by omega)
  replace A3 := HN
  clear hT HN
  refine W_nil ?_
  refine then_nrm ?_
  show Code.wp Try.prog _ _ _ _
  refine wp_seq ?_
  refine wp_seq ?_
  refine wp_region_list ?_
  refine W_val hA rfl 9 rfl (by decide) _ _ (R_fa hA rfl rfl (fun w => fa_hart _ 3 34 (by decide) rfl w) _) (fun a hA => ?_)
  refine W_val hA rfl 10 rfl (by decide) _ _ (R_ld (v := .bool (t.v)) hA rfl rfl ag_bool HH.v) (fun a hA => ?_)
  refine W_nil ?_
  refine then_nrm ?_
  show Code.wp Try.prog _ _ _ _
  refine wp_cond_split (hA.ev (x := .tmp 10) rfl) (fun c1 => ?_) (fun c1 => ?_)
  · skip
    refine wp_seq ?_
    refine wp_region_list ?_
    refine W_val hA rfl 11 rfl (by decide) _ _ (R_fa hA rfl rfl (fun w => fa_hart _ 40 71 (by decide) rfl w) _) (fun a hA => ?_)
    refine W_val hA rfl 12 rfl (by decide) _ _ (R_ld (v := .int .u64 (t.n 71)) hA rfl rfl ag_u64 (HH.u 71 (by decide) (by decide))) (fun a hA => ?_)
    refine W_val hA rfl 13 rfl (by decide) _ _ (R_fa hA rfl rfl (fun w => fa_hart _ 0 0 (by decide) rfl w) _) (fun a hA => ?_)
    refine W_stU hA rfl rfl rfl rfl rfl A3 (by decide) (by decide) (fun w7 hT HN => ?_)
    replace HB := HB.trans (hT.bel _ gA3)
    replace HH := hT.hart HH (by omega)
    replace A2 := hT.hart A2 (by omega)
    replace A3 := HN
    clear hT HN
    refine W_nil ?_
    refine then_nrm ?_
    show Code.wp Try.prog _ _ _ _
    refine wp_seq ?_
    refine wp_region_list ?_
    refine W_val hA rfl 14 rfl (by decide) _ _ (R_fa hA rfl rfl (fun w => fa_hart _ 2 33 (by decide) rfl w) _) (fun a hA => ?_)
    refine W_stP hA rfl rfl rfl rfl rfl A3 (fun w8 hT HN => ?_)
    replace HB := HB.trans (hT.bel _ gA3)
    replace HH := hT.hart HH (by omega)
    replace A2 := hT.hart A2 (by omega)
    replace A3 := HN
    clear hT HN
    refine W_nil ?_
    refine then_nrm ?_
    show Code.wp Try.prog _ _ _ _
    refine wp_seq ?_
    refine wp_seq ?_
    refine wp_region_list ?_
    refine W_val hA rfl 15 rfl (by decide) _ _ (R_fa hA rfl rfl (fun w => fa_hart _ 37 68 (by decide) rfl w) _) (fun a hA => ?_)
    refine W_val hA rfl 16 rfl (by decide) _ _ (R_ld (v := .int .u64 (t.n 68)) hA rfl rfl ag_u64 (HH.u 68 (by decide) (by decide))) (fun a hA => ?_)
    refine W_callA hA (by decide) (fun _ _ => by kernel_rfl) (args2 hA rfl rfl) (dbitN_any _ (by first | exact ok.n _ | exact hc | exact ht) 8 (by decide) _) (fun w9 hw a hA => ?_)
    subst hw
    refine W_nil ?_
    refine then_nrm ?_
    show Code.wp Try.prog _ _ _ _
    refine wp_cond_split (hA.ev (x := .tmp 17) rfl) (fun c2 => ?_) (fun c2 => ?_)
    · skip
      refine wp_region_list ?_
      refine W_val hA rfl 18 rfl (by decide) _ _ (R_fa hA rfl rfl (fun w => fa_hart _ 2 33 (by decide) rfl w) _) (fun a hA => ?_)
      refine W_stP hA rfl rfl rfl rfl rfl A3 (fun w10 hT HN => ?_)
      replace HB := HB.trans (hT.bel _ gA3)
      replace HH := hT.hart HH (by omega)
      replace A2 := hT.hart A2 (by omega)
      replace A3 := HN
      clear hT HN
      refine W_nil ?_
      refine then_nrm ?_
      show Code.wp Try.prog _ _ _ _
      refine wp_seq ?_
      refine wp_region_held_drew (S := fun wx => Below w10.heap.size w10 wx) (by kernel_rfl) ((Below.refl _ _).drew) (fun hS => ?_)
      refine takeF (i := 0) hA 19 rfl rfl (by decide) rfl (by kernel_rfl) (by kernel_rfl) (by kernel_rfl) (fun _ _ _ h => h) hS (fun wx hx => R_fa hA rfl rfl (fun w => fa_hart _ 37 68 (by decide) rfl w) _) (fun a hA => ?_)
      refine takeF (i := 1) hA 20 rfl rfl (by decide) rfl (by kernel_rfl) (by kernel_rfl) (by kernel_rfl) (fun _ _ _ h => h) hS (fun wx hx => R_ld (v := .int .u64 (t.n 68)) hA rfl rfl ag_u64 ((HH.below hx).u 68 (by decide) (by decide))) (fun a hA => ?_)
      refine takeF (i := 2) hA 21 rfl rfl (by decide) rfl (by kernel_rfl) (by kernel_rfl) (by kernel_rfl) (fun _ _ _ h => h) hS (fun wx hx => R_fa hA rfl rfl (fun w => fa_hart _ 37 68 (by decide) rfl w) _) (fun a hA => ?_)
      refine takeF (i := 3) hA 22 rfl rfl (by decide) rfl (by kernel_rfl) (by kernel_rfl) (by kernel_rfl) (fun _ _ _ h => h) hS (fun wx hx => R_ld (v := .int .u64 (t.n 68)) hA rfl rfl ag_u64 ((HH.below hx).u 68 (by decide) (by decide))) (fun a hA => ?_)
      refine wpAnyH_ready (rs := [4]) (by kernel_rfl) (by simp) (ready_call (i := 4) hA (by decide) rfl (fun _ _ => by kernel_rfl) (args2 hA rfl rfl) (dbitN_any _ (by first | exact ok.n _ | exact hc | exact ht) 5 (by decide) _) (fun _ h => h ▸ hS) (fun w11 hw a hA => ?_) AllReadyH.nil)
      subst hw
      refine wpAnyH_ready (rs := [5]) (by kernel_rfl) (by simp) (ready_call (i := 5) hA (by decide) rfl (fun _ _ => by kernel_rfl) (args3 hA rfl rfl rfl) (dwith_any _ 1 (by decide) _ _) (fun _ h => h ▸ hS) (fun w12 hw a hA => ?_) AllReadyH.nil)
      subst hw
      refine takeF (i := 6) hA 4 rfl rfl (by decide) rfl (by kernel_rfl) (by kernel_rfl) (by kernel_rfl) (fun _ _ _ h => h) hS (fun wx hx => R_asg hA rfl rfl _) (fun a hA => ?_)
      refine wpAnyH_done (by kernel_rfl) ?_ _
      replace HH := HH.below hS
      replace A2 := A2.below hS
      replace A3 := A3.below hS
      replace HB := HB.trans (hS.mono HB.size)
      clear hS
      generalize World.drew w10 = w13 at *
      refine then_nrm ?_
      show Code.wp Try.prog _ _ _ _
      refine wp_seq ?_
      refine wp_region_list ?_
      refine W_val hA rfl 25 rfl (by decide) _ _ (R_mov hA rfl rfl _) (fun a hA => ?_)
      refine W_callA hA (by decide) (fun _ _ => by kernel_rfl) (args3 hA rfl rfl rfl) (dwith_any _ 5 (by decide) _ _) (fun w14 hw a hA => ?_)
      subst hw
      refine W_val hA rfl 4 rfl (by decide) _ _ (R_asg hA rfl rfl _) (fun a hA => ?_)
      refine W_nil ?_
      refine then_nrm ?_
      show Code.wp Try.prog _ _ _ _
      refine wp_seq ?_
      refine wp_region_list ?_
      refine W_val hA rfl 27 rfl (by decide) _ _ (R_mov hA rfl rfl _) (fun a hA => ?_)
      refine W_callA hA (by decide) (fun _ _ => by kernel_rfl) (args3 hA rfl rfl rfl) (dwith_any _ 8 (by decide) _ _) (fun w15 hw a hA => ?_)
      subst hw
      refine W_val hA rfl 29 rfl (by decide) _ _ (R_fa hA rfl rfl (fun w => fa_hart _ 37 68 (by decide) rfl w) _) (fun a hA => ?_)
      refine W_stU hA rfl rfl rfl rfl rfl A3 (by decide) (by decide) (fun w16 hT HN => ?_)
      replace HB := HB.trans (hT.bel _ gA3)
      replace HH := hT.hart HH (by omega)
      replace A2 := hT.hart A2 (by omega)
      replace A3 := HN
      clear hT HN
      refine W_nil ?_
      refine then_nrm ?_
      show Code.wp Try.prog _ _ _ _
      refine wp_seq ?_
      refine wp_region_list ?_
      refine W_val hA rfl 30 rfl (by decide) _ _ (R_fa hA rfl rfl (fun w => fa_hart _ 7 38 (by decide) rfl w) _) (fun a hA => ?_)
      refine W_val hA rfl 31 rfl (by decide) _ _ (R_ld (v := .int .u64 (t.n 38)) hA rfl rfl ag_u64 (HH.u 38 (by decide) (by decide))) (fun a hA => ?_)
      refine W_callA hA (by decide) (fun _ _ => by kernel_rfl) (args3 hA rfl rfl rfl) (dwith_any _ 17 (by decide) _ _) (fun w17 hw a hA => ?_)
      subst hw
      refine W_val hA rfl 33 rfl (by decide) _ _ (R_fa hA rfl rfl (fun w => fa_hart _ 7 38 (by decide) rfl w) _) (fun a hA => ?_)
      refine W_stU hA rfl rfl rfl rfl rfl A3 (by decide) (by decide) (fun w18 hT HN => ?_)
      replace HB := HB.trans (hT.bel _ gA3)
      replace HH := hT.hart HH (by omega)
      replace A2 := hT.hart A2 (by omega)
      replace A3 := HN
      clear hT HN
      refine W_nil ?_
      refine then_nrm ?_
      show Code.wp Try.prog _ _ _ _
      refine wp_seq ?_
      refine wp_region_list ?_
      refine W_val hA rfl 34 rfl (by decide) _ _ (R_row hA rfl rfl A3 Try.underlying25 (size_hart.trans (by rw [varr_size]))) (fun a hA => ?_)
      refine W_cpH hA rfl rfl rfl rfl rfl A2 (fun w19 hT HN => ?_)
      replace HB := HB.trans (hT.bel _ gA2)
      replace HH := hT.hart HH (by omega)
      replace A3 := hT.hart A3 (by omega)
      replace A2 := HN
      clear hT HN
      refine W_nil ?_
      refine then_nrm ?_
      show Code.wp Try.prog _ _ _ _
      refine wp_ret ?_
      refine then_ret ?_
      refine ret_hart (j := 2) (by kernel_rfl) hA rfl A2 ⟨congrArg (fun q : HS => Ending.returned (hartV q)) ?_, HB⟩
      unfold sretZ
      rw [c1]
      rw [if_pos rfl]
      rw [show privS (t.n 68) = 1 by unfold privS; rw [c2]; rfl]
      refine HS.same (fun i => ?_) c1 rfl rfl
      by_cases h0 : i = 0
      · subst h0; rfl
      by_cases h33 : i = 33
      · subst h33; rfl
      by_cases h37 : i = 37
      · subst h37; rfl
      by_cases h38 : i = 38
      · subst h38; rfl
      by_cases h68 : i = 68
      · subst h68; rfl
      simp only [sretZ, HS.put, HS.putV, HS.putW, HS.putH, HS.mode, h0, h33, h37, h38, h68, if_false]
    refine wp_skip ?_
    refine then_nrm ?_
    show Code.wp Try.prog _ _ _ _
    refine wp_seq ?_
    refine wp_region_held_drew (S := fun wx => Below w8.heap.size w8 wx) (by kernel_rfl) ((Below.refl _ _).drew) (fun hS => ?_)
    refine takeF (i := 0) hA 19 rfl rfl (by decide) rfl (by kernel_rfl) (by kernel_rfl) (by kernel_rfl) (fun _ _ _ h => h) hS (fun wx hx => R_fa hA rfl rfl (fun w => fa_hart _ 37 68 (by decide) rfl w) _) (fun a hA => ?_)
    refine takeF (i := 1) hA 20 rfl rfl (by decide) rfl (by kernel_rfl) (by kernel_rfl) (by kernel_rfl) (fun _ _ _ h => h) hS (fun wx hx => R_ld (v := .int .u64 (t.n 68)) hA rfl rfl ag_u64 ((HH.below hx).u 68 (by decide) (by decide))) (fun a hA => ?_)
    refine takeF (i := 2) hA 21 rfl rfl (by decide) rfl (by kernel_rfl) (by kernel_rfl) (by kernel_rfl) (fun _ _ _ h => h) hS (fun wx hx => R_fa hA rfl rfl (fun w => fa_hart _ 37 68 (by decide) rfl w) _) (fun a hA => ?_)
    refine takeF (i := 3) hA 22 rfl rfl (by decide) rfl (by kernel_rfl) (by kernel_rfl) (by kernel_rfl) (fun _ _ _ h => h) hS (fun wx hx => R_ld (v := .int .u64 (t.n 68)) hA rfl rfl ag_u64 ((HH.below hx).u 68 (by decide) (by decide))) (fun a hA => ?_)
    refine wpAnyH_ready (rs := [4]) (by kernel_rfl) (by simp) (ready_call (i := 4) hA (by decide) rfl (fun _ _ => by kernel_rfl) (args2 hA rfl rfl) (dbitN_any _ (by first | exact ok.n _ | exact hc | exact ht) 5 (by decide) _) (fun _ h => h ▸ hS) (fun w20 hw a hA => ?_) AllReadyH.nil)
    subst hw
    refine wpAnyH_ready (rs := [5]) (by kernel_rfl) (by simp) (ready_call (i := 5) hA (by decide) rfl (fun _ _ => by kernel_rfl) (args3 hA rfl rfl rfl) (dwith_any _ 1 (by decide) _ _) (fun _ h => h ▸ hS) (fun w21 hw a hA => ?_) AllReadyH.nil)
    subst hw
    refine takeF (i := 6) hA 4 rfl rfl (by decide) rfl (by kernel_rfl) (by kernel_rfl) (by kernel_rfl) (fun _ _ _ h => h) hS (fun wx hx => R_asg hA rfl rfl _) (fun a hA => ?_)
    refine wpAnyH_done (by kernel_rfl) ?_ _
    replace HH := HH.below hS
    replace A2 := A2.below hS
    replace A3 := A3.below hS
    replace HB := HB.trans (hS.mono HB.size)
    clear hS
    generalize World.drew w8 = w22 at *
    refine then_nrm ?_
    show Code.wp Try.prog _ _ _ _
    refine wp_seq ?_
    refine wp_region_list ?_
    refine W_val hA rfl 25 rfl (by decide) _ _ (R_mov hA rfl rfl _) (fun a hA => ?_)
    refine W_callA hA (by decide) (fun _ _ => by kernel_rfl) (args3 hA rfl rfl rfl) (dwith_any _ 5 (by decide) _ _) (fun w23 hw a hA => ?_)
    subst hw
    refine W_val hA rfl 4 rfl (by decide) _ _ (R_asg hA rfl rfl _) (fun a hA => ?_)
    refine W_nil ?_
    refine then_nrm ?_
    show Code.wp Try.prog _ _ _ _
    refine wp_seq ?_
    refine wp_region_list ?_
    refine W_val hA rfl 27 rfl (by decide) _ _ (R_mov hA rfl rfl _) (fun a hA => ?_)
    refine W_callA hA (by decide) (fun _ _ => by kernel_rfl) (args3 hA rfl rfl rfl) (dwith_any _ 8 (by decide) _ _) (fun w24 hw a hA => ?_)
    subst hw
    refine W_val hA rfl 29 rfl (by decide) _ _ (R_fa hA rfl rfl (fun w => fa_hart _ 37 68 (by decide) rfl w) _) (fun a hA => ?_)
    refine W_stU hA rfl rfl rfl rfl rfl A3 (by decide) (by decide) (fun w25 hT HN => ?_)
    replace HB := HB.trans (hT.bel _ gA3)
    replace HH := hT.hart HH (by omega)
    replace A2 := hT.hart A2 (by omega)
    replace A3 := HN
    clear hT HN
    refine W_nil ?_
    refine then_nrm ?_
    show Code.wp Try.prog _ _ _ _
    refine wp_seq ?_
    refine wp_region_list ?_
    refine W_val hA rfl 30 rfl (by decide) _ _ (R_fa hA rfl rfl (fun w => fa_hart _ 7 38 (by decide) rfl w) _) (fun a hA => ?_)
    refine W_val hA rfl 31 rfl (by decide) _ _ (R_ld (v := .int .u64 (t.n 38)) hA rfl rfl ag_u64 (HH.u 38 (by decide) (by decide))) (fun a hA => ?_)
    refine W_callA hA (by decide) (fun _ _ => by kernel_rfl) (args3 hA rfl rfl rfl) (dwith_any _ 17 (by decide) _ _) (fun w26 hw a hA => ?_)
    subst hw
    refine W_val hA rfl 33 rfl (by decide) _ _ (R_fa hA rfl rfl (fun w => fa_hart _ 7 38 (by decide) rfl w) _) (fun a hA => ?_)
    refine W_stU hA rfl rfl rfl rfl rfl A3 (by decide) (by decide) (fun w27 hT HN => ?_)
    replace HB := HB.trans (hT.bel _ gA3)
    replace HH := hT.hart HH (by omega)
    replace A2 := hT.hart A2 (by omega)
    replace A3 := HN
    clear hT HN
    refine W_nil ?_
    refine then_nrm ?_
    show Code.wp Try.prog _ _ _ _
    refine wp_seq ?_
    refine wp_region_list ?_
    refine W_val hA rfl 34 rfl (by decide) _ _ (R_row hA rfl rfl A3 Try.underlying25 (size_hart.trans (by rw [varr_size]))) (fun a hA => ?_)
    refine W_cpH hA rfl rfl rfl rfl rfl A2 (fun w28 hT HN => ?_)
    replace HB := HB.trans (hT.bel _ gA2)
    replace HH := hT.hart HH (by omega)
    replace A3 := hT.hart A3 (by omega)
    replace A2 := HN
    clear hT HN
    refine W_nil ?_
    refine then_nrm ?_
    show Code.wp Try.prog _ _ _ _
    refine wp_ret ?_
    refine then_ret ?_
    refine ret_hart (j := 2) (by kernel_rfl) hA rfl A2 ⟨congrArg (fun q : HS => Ending.returned (hartV q)) ?_, HB⟩
    unfold sretZ
    rw [c1]
    rw [if_pos rfl]
    rw [show privS (t.n 68) = 0 by unfold privS; rw [c2]; rfl]
    refine HS.same (fun i => ?_) c1 rfl rfl
    by_cases h0 : i = 0
    · subst h0; rfl
    by_cases h33 : i = 33
    · subst h33; rfl
    by_cases h37 : i = 37
    · subst h37; rfl
    by_cases h38 : i = 38
    · subst h38; rfl
    by_cases h68 : i = 68
    · subst h68; rfl
    simp only [sretZ, HS.put, HS.putV, HS.putW, HS.putH, HS.mode, h0, h33, h37, h38, h68, if_false]
  refine wp_skip ?_
  refine then_nrm ?_
  show Code.wp Try.prog _ _ _ _
  refine wp_seq ?_
  refine wp_region_list ?_
  refine W_val hA rfl 35 rfl (by decide) _ _ (R_fa hA rfl rfl (fun w => fa_hart _ 23 54 (by decide) rfl w) _) (fun a hA => ?_)
  refine W_val hA rfl 36 rfl (by decide) _ _ (R_ld (v := .int .u64 (t.n 54)) hA rfl rfl ag_u64 (HH.u 54 (by decide) (by decide))) (fun a hA => ?_)
  refine W_val hA rfl 37 rfl (by decide) _ _ (R_fa hA rfl rfl (fun w => fa_hart _ 0 0 (by decide) rfl w) _) (fun a hA => ?_)
  refine W_stU hA rfl rfl rfl rfl rfl A3 (by decide) (by decide) (fun w29 hT HN => ?_)
  replace HB := HB.trans (hT.bel _ gA3)
  replace HH := hT.hart HH (by omega)
  replace A2 := hT.hart A2 (by omega)
  replace A3 := HN
  clear hT HN
  refine W_nil ?_
  refine then_nrm ?_
  show Code.wp Try.prog _ _ _ _
  refine wp_seq ?_
  refine wp_region_list ?_
  refine W_val hA rfl 38 rfl (by decide) _ _ (R_fa hA rfl rfl (fun w => fa_hart _ 2 33 (by decide) rfl w) _) (fun a hA => ?_)
  refine W_stP hA rfl rfl rfl rfl rfl A3 (fun w30 hT HN => ?_)
  replace HB := HB.trans (hT.bel _ gA3)
  replace HH := hT.hart HH (by omega)
  replace A2 := hT.hart A2 (by omega)
  replace A3 := HN
  clear hT HN
  refine W_nil ?_
  refine then_nrm ?_
  show Code.wp Try.prog _ _ _ _
  refine wp_seq ?_
  refine wp_seq ?_
  refine wp_region_list ?_
  refine W_val hA rfl 39 rfl (by decide) _ _ (R_fa hA rfl rfl (fun w => fa_hart _ 7 38 (by decide) rfl w) _) (fun a hA => ?_)
  refine W_val hA rfl 40 rfl (by decide) _ _ (R_ld (v := .int .u64 (t.n 38)) hA rfl rfl ag_u64 (HH.u 38 (by decide) (by decide))) (fun a hA => ?_)
  refine W_callA hA (by decide) (fun _ _ => by kernel_rfl) (args2 hA rfl rfl) (dbitN_any _ (by first | exact ok.n _ | exact hc | exact ht) 8 (by decide) _) (fun w31 hw a hA => ?_)
  subst hw
  refine W_nil ?_
  refine then_nrm ?_
  show Code.wp Try.prog _ _ _ _
  refine wp_cond_split (hA.ev (x := .tmp 41) rfl) (fun c3 => ?_) (fun c3 => ?_)
  · skip
    refine wp_region_list ?_
    refine W_val hA rfl 42 rfl (by decide) _ _ (R_fa hA rfl rfl (fun w => fa_hart _ 2 33 (by decide) rfl w) _) (fun a hA => ?_)
    refine W_stP hA rfl rfl rfl rfl rfl A3 (fun w32 hT HN => ?_)
    replace HB := HB.trans (hT.bel _ gA3)
    replace HH := hT.hart HH (by omega)
    replace A2 := hT.hart A2 (by omega)
    replace A3 := HN
    clear hT HN
    refine W_nil ?_
    refine then_nrm ?_
    show Code.wp Try.prog _ _ _ _
    refine wp_seq ?_
    refine wp_region_list ?_
    refine W_val hA rfl 43 rfl (by decide) _ _ (R_fa hA rfl rfl (fun w => fa_hart _ 27 58 (by decide) rfl w) _) (fun a hA => ?_)
    refine W_val hA rfl 44 rfl (by decide) _ _ (R_ld (v := .int .u64 (t.n 58)) hA rfl rfl ag_u64 (HH.u 58 (by decide) (by decide))) (fun a hA => ?_)
    refine W_callA hA (by decide) (fun _ _ => by kernel_rfl) (args2 hA rfl rfl) (dbitN_any _ (by first | exact ok.n _ | exact hc | exact ht) 7 (by decide) _) (fun w33 hw a hA => ?_)
    subst hw
    refine W_val hA rfl 46 rfl (by decide) _ _ (R_fa hA rfl rfl (fun w => fa_hart _ 3 34 (by decide) rfl w) _) (fun a hA => ?_)
    refine W_stV hA rfl rfl rfl rfl rfl A3 (fun w34 hT HN => ?_)
    replace HB := HB.trans (hT.bel _ gA3)
    replace HH := hT.hart HH (by omega)
    replace A2 := hT.hart A2 (by omega)
    replace A3 := HN
    clear hT HN
    refine W_nil ?_
    refine then_nrm ?_
    show Code.wp Try.prog _ _ _ _
    refine wp_seq ?_
    refine wp_region_held_drew (S := fun wx => Below w34.heap.size w34 wx) (by kernel_rfl) ((Below.refl _ _).drew) (fun hS => ?_)
    refine takeF (i := 0) hA 47 rfl rfl (by decide) rfl (by kernel_rfl) (by kernel_rfl) (by kernel_rfl) (fun _ _ _ h => h) hS (fun wx hx => R_fa hA rfl rfl (fun w => fa_hart _ 7 38 (by decide) rfl w) _) (fun a hA => ?_)
    refine takeF (i := 1) hA 48 rfl rfl (by decide) rfl (by kernel_rfl) (by kernel_rfl) (by kernel_rfl) (fun _ _ _ h => h) hS (fun wx hx => R_ld (v := .int .u64 (t.n 38)) hA rfl rfl ag_u64 ((HH.below hx).u 38 (by decide) (by decide))) (fun a hA => ?_)
    refine takeF (i := 2) hA 49 rfl rfl (by decide) rfl (by kernel_rfl) (by kernel_rfl) (by kernel_rfl) (fun _ _ _ h => h) hS (fun wx hx => R_fa hA rfl rfl (fun w => fa_hart _ 7 38 (by decide) rfl w) _) (fun a hA => ?_)
    refine takeF (i := 3) hA 50 rfl rfl (by decide) rfl (by kernel_rfl) (by kernel_rfl) (by kernel_rfl) (fun _ _ _ h => h) hS (fun wx hx => R_ld (v := .int .u64 (t.n 38)) hA rfl rfl ag_u64 ((HH.below hx).u 38 (by decide) (by decide))) (fun a hA => ?_)
    refine wpAnyH_ready (rs := [4]) (by kernel_rfl) (by simp) (ready_call (i := 4) hA (by decide) rfl (fun _ _ => by kernel_rfl) (args2 hA rfl rfl) (dbitN_any _ (by first | exact ok.n _ | exact hc | exact ht) 5 (by decide) _) (fun _ h => h ▸ hS) (fun w35 hw a hA => ?_) AllReadyH.nil)
    subst hw
    refine wpAnyH_ready (rs := [5]) (by kernel_rfl) (by simp) (ready_call (i := 5) hA (by decide) rfl (fun _ _ => by kernel_rfl) (args3 hA rfl rfl rfl) (dwith_any _ 1 (by decide) _ _) (fun _ h => h ▸ hS) (fun w36 hw a hA => ?_) AllReadyH.nil)
    subst hw
    refine takeF (i := 6) hA 5 rfl rfl (by decide) rfl (by kernel_rfl) (by kernel_rfl) (by kernel_rfl) (fun _ _ _ h => h) hS (fun wx hx => R_asg hA rfl rfl _) (fun a hA => ?_)
    refine wpAnyH_done (by kernel_rfl) ?_ _
    replace HH := HH.below hS
    replace A2 := A2.below hS
    replace A3 := A3.below hS
    replace HB := HB.trans (hS.mono HB.size)
    clear hS
    generalize World.drew w34 = w37 at *
    refine then_nrm ?_
    show Code.wp Try.prog _ _ _ _
    refine wp_seq ?_
    refine wp_region_list ?_
    refine W_val hA rfl 53 rfl (by decide) _ _ (R_mov hA rfl rfl _) (fun a hA => ?_)
    refine W_callA hA (by decide) (fun _ _ => by kernel_rfl) (args3 hA rfl rfl rfl) (dwith_any _ 5 (by decide) _ _) (fun w38 hw a hA => ?_)
    subst hw
    refine W_val hA rfl 5 rfl (by decide) _ _ (R_asg hA rfl rfl _) (fun a hA => ?_)
    refine W_nil ?_
    refine then_nrm ?_
    show Code.wp Try.prog _ _ _ _
    refine wp_seq ?_
    refine wp_region_list ?_
    refine W_val hA rfl 55 rfl (by decide) _ _ (R_mov hA rfl rfl _) (fun a hA => ?_)
    refine W_callA hA (by decide) (fun _ _ => by kernel_rfl) (args3 hA rfl rfl rfl) (dwith_any _ 8 (by decide) _ _) (fun w39 hw a hA => ?_)
    subst hw
    refine W_val hA rfl 5 rfl (by decide) _ _ (R_asg hA rfl rfl _) (fun a hA => ?_)
    refine W_nil ?_
    refine then_nrm ?_
    show Code.wp Try.prog _ _ _ _
    refine wp_seq ?_
    refine wp_region_list ?_
    refine W_val hA rfl 57 rfl (by decide) _ _ (R_mov hA rfl rfl _) (fun a hA => ?_)
    refine W_callA hA (by decide) (fun _ _ => by kernel_rfl) (args3 hA rfl rfl rfl) (dwith_any _ 17 (by decide) _ _) (fun w40 hw a hA => ?_)
    subst hw
    refine W_val hA rfl 59 rfl (by decide) _ _ (R_fa hA rfl rfl (fun w => fa_hart _ 7 38 (by decide) rfl w) _) (fun a hA => ?_)
    refine W_stU hA rfl rfl rfl rfl rfl A3 (by decide) (by decide) (fun w41 hT HN => ?_)
    replace HB := HB.trans (hT.bel _ gA3)
    replace HH := hT.hart HH (by omega)
    replace A2 := hT.hart A2 (by omega)
    replace A3 := HN
    clear hT HN
    refine W_nil ?_
    refine then_nrm ?_
    show Code.wp Try.prog _ _ _ _
    refine wp_seq ?_
    refine wp_region_list ?_
    refine W_val hA rfl 60 rfl (by decide) _ _ (R_fa hA rfl rfl (fun w => fa_hart _ 27 58 (by decide) rfl w) _) (fun a hA => ?_)
    refine W_val hA rfl 61 rfl (by decide) _ _ (R_ld (v := .int .u64 (t.n 58)) hA rfl rfl ag_u64 (HH.u 58 (by decide) (by decide))) (fun a hA => ?_)
    refine W_callA hA (by decide) (fun _ _ => by kernel_rfl) (args3 hA rfl rfl rfl) (dwith_any _ 7 (by decide) _ _) (fun w42 hw a hA => ?_)
    subst hw
    refine W_val hA rfl 63 rfl (by decide) _ _ (R_fa hA rfl rfl (fun w => fa_hart _ 27 58 (by decide) rfl w) _) (fun a hA => ?_)
    refine W_stU hA rfl rfl rfl rfl rfl A3 (by decide) (by decide) (fun w43 hT HN => ?_)
    replace HB := HB.trans (hT.bel _ gA3)
    replace HH := hT.hart HH (by omega)
    replace A2 := hT.hart A2 (by omega)
    replace A3 := HN
    clear hT HN
    refine W_nil ?_
    refine then_nrm ?_
    show Code.wp Try.prog _ _ _ _
    refine wp_seq ?_
    refine wp_region_list ?_
    refine W_val hA rfl 64 rfl (by decide) _ _ (R_row hA rfl rfl A3 Try.underlying25 (size_hart.trans (by rw [varr_size]))) (fun a hA => ?_)
    refine W_cpH hA rfl rfl rfl rfl rfl A2 (fun w44 hT HN => ?_)
    replace HB := HB.trans (hT.bel _ gA2)
    replace HH := hT.hart HH (by omega)
    replace A3 := hT.hart A3 (by omega)
    replace A2 := HN
    clear hT HN
    refine W_nil ?_
    refine then_nrm ?_
    show Code.wp Try.prog _ _ _ _
    refine wp_ret ?_
    refine ret_hart (j := 2) (by kernel_rfl) hA rfl A2 ⟨congrArg (fun q : HS => Ending.returned (hartV q)) ?_, HB⟩
    unfold sretZ
    rw [c1]
    rw [if_neg (by decide)]
    rw [show privS (t.n 38) = 1 by unfold privS; rw [c3]; rfl]
    refine HS.same (fun i => ?_) rfl rfl rfl
    by_cases h0 : i = 0
    · subst h0; rfl
    by_cases h33 : i = 33
    · subst h33; rfl
    by_cases h37 : i = 37
    · subst h37; rfl
    by_cases h38 : i = 38
    · subst h38; rfl
    by_cases h58 : i = 58
    · subst h58; rfl
    simp only [sretZ, HS.put, HS.putV, HS.putW, HS.putH, HS.mode, h0, h33, h37, h38, h58, if_false]
  refine wp_skip ?_
  refine then_nrm ?_
  show Code.wp Try.prog _ _ _ _
  refine wp_seq ?_
  refine wp_region_list ?_
  refine W_val hA rfl 43 rfl (by decide) _ _ (R_fa hA rfl rfl (fun w => fa_hart _ 27 58 (by decide) rfl w) _) (fun a hA => ?_)
  refine W_val hA rfl 44 rfl (by decide) _ _ (R_ld (v := .int .u64 (t.n 58)) hA rfl rfl ag_u64 (HH.u 58 (by decide) (by decide))) (fun a hA => ?_)
  refine W_callA hA (by decide) (fun _ _ => by kernel_rfl) (args2 hA rfl rfl) (dbitN_any _ (by first | exact ok.n _ | exact hc | exact ht) 7 (by decide) _) (fun w45 hw a hA => ?_)
  subst hw
  refine W_val hA rfl 46 rfl (by decide) _ _ (R_fa hA rfl rfl (fun w => fa_hart _ 3 34 (by decide) rfl w) _) (fun a hA => ?_)
  refine W_stV hA rfl rfl rfl rfl rfl A3 (fun w46 hT HN => ?_)
  replace HB := HB.trans (hT.bel _ gA3)
  replace HH := hT.hart HH (by omega)
  replace A2 := hT.hart A2 (by omega)
  replace A3 := HN
  clear hT HN
  refine W_nil ?_
  refine then_nrm ?_
  show Code.wp Try.prog _ _ _ _
  refine wp_seq ?_
  refine wp_region_held_drew (S := fun wx => Below w46.heap.size w46 wx) (by kernel_rfl) ((Below.refl _ _).drew) (fun hS => ?_)
  refine takeF (i := 0) hA 47 rfl rfl (by decide) rfl (by kernel_rfl) (by kernel_rfl) (by kernel_rfl) (fun _ _ _ h => h) hS (fun wx hx => R_fa hA rfl rfl (fun w => fa_hart _ 7 38 (by decide) rfl w) _) (fun a hA => ?_)
  refine takeF (i := 1) hA 48 rfl rfl (by decide) rfl (by kernel_rfl) (by kernel_rfl) (by kernel_rfl) (fun _ _ _ h => h) hS (fun wx hx => R_ld (v := .int .u64 (t.n 38)) hA rfl rfl ag_u64 ((HH.below hx).u 38 (by decide) (by decide))) (fun a hA => ?_)
  refine takeF (i := 2) hA 49 rfl rfl (by decide) rfl (by kernel_rfl) (by kernel_rfl) (by kernel_rfl) (fun _ _ _ h => h) hS (fun wx hx => R_fa hA rfl rfl (fun w => fa_hart _ 7 38 (by decide) rfl w) _) (fun a hA => ?_)
  refine takeF (i := 3) hA 50 rfl rfl (by decide) rfl (by kernel_rfl) (by kernel_rfl) (by kernel_rfl) (fun _ _ _ h => h) hS (fun wx hx => R_ld (v := .int .u64 (t.n 38)) hA rfl rfl ag_u64 ((HH.below hx).u 38 (by decide) (by decide))) (fun a hA => ?_)
  refine wpAnyH_ready (rs := [4]) (by kernel_rfl) (by simp) (ready_call (i := 4) hA (by decide) rfl (fun _ _ => by kernel_rfl) (args2 hA rfl rfl) (dbitN_any _ (by first | exact ok.n _ | exact hc | exact ht) 5 (by decide) _) (fun _ h => h ▸ hS) (fun w47 hw a hA => ?_) AllReadyH.nil)
  subst hw
  refine wpAnyH_ready (rs := [5]) (by kernel_rfl) (by simp) (ready_call (i := 5) hA (by decide) rfl (fun _ _ => by kernel_rfl) (args3 hA rfl rfl rfl) (dwith_any _ 1 (by decide) _ _) (fun _ h => h ▸ hS) (fun w48 hw a hA => ?_) AllReadyH.nil)
  subst hw
  refine takeF (i := 6) hA 5 rfl rfl (by decide) rfl (by kernel_rfl) (by kernel_rfl) (by kernel_rfl) (fun _ _ _ h => h) hS (fun wx hx => R_asg hA rfl rfl _) (fun a hA => ?_)
  refine wpAnyH_done (by kernel_rfl) ?_ _
  replace HH := HH.below hS
  replace A2 := A2.below hS
  replace A3 := A3.below hS
  replace HB := HB.trans (hS.mono HB.size)
  clear hS
  generalize World.drew w46 = w49 at *
  refine then_nrm ?_
  show Code.wp Try.prog _ _ _ _
  refine wp_seq ?_
  refine wp_region_list ?_
  refine W_val hA rfl 53 rfl (by decide) _ _ (R_mov hA rfl rfl _) (fun a hA => ?_)
  refine W_callA hA (by decide) (fun _ _ => by kernel_rfl) (args3 hA rfl rfl rfl) (dwith_any _ 5 (by decide) _ _) (fun w50 hw a hA => ?_)
  subst hw
  refine W_val hA rfl 5 rfl (by decide) _ _ (R_asg hA rfl rfl _) (fun a hA => ?_)
  refine W_nil ?_
  refine then_nrm ?_
  show Code.wp Try.prog _ _ _ _
  refine wp_seq ?_
  refine wp_region_list ?_
  refine W_val hA rfl 55 rfl (by decide) _ _ (R_mov hA rfl rfl _) (fun a hA => ?_)
  refine W_callA hA (by decide) (fun _ _ => by kernel_rfl) (args3 hA rfl rfl rfl) (dwith_any _ 8 (by decide) _ _) (fun w51 hw a hA => ?_)
  subst hw
  refine W_val hA rfl 5 rfl (by decide) _ _ (R_asg hA rfl rfl _) (fun a hA => ?_)
  refine W_nil ?_
  refine then_nrm ?_
  show Code.wp Try.prog _ _ _ _
  refine wp_seq ?_
  refine wp_region_list ?_
  refine W_val hA rfl 57 rfl (by decide) _ _ (R_mov hA rfl rfl _) (fun a hA => ?_)
  refine W_callA hA (by decide) (fun _ _ => by kernel_rfl) (args3 hA rfl rfl rfl) (dwith_any _ 17 (by decide) _ _) (fun w52 hw a hA => ?_)
  subst hw
  refine W_val hA rfl 59 rfl (by decide) _ _ (R_fa hA rfl rfl (fun w => fa_hart _ 7 38 (by decide) rfl w) _) (fun a hA => ?_)
  refine W_stU hA rfl rfl rfl rfl rfl A3 (by decide) (by decide) (fun w53 hT HN => ?_)
  replace HB := HB.trans (hT.bel _ gA3)
  replace HH := hT.hart HH (by omega)
  replace A2 := hT.hart A2 (by omega)
  replace A3 := HN
  clear hT HN
  refine W_nil ?_
  refine then_nrm ?_
  show Code.wp Try.prog _ _ _ _
  refine wp_seq ?_
  refine wp_region_list ?_
  refine W_val hA rfl 60 rfl (by decide) _ _ (R_fa hA rfl rfl (fun w => fa_hart _ 27 58 (by decide) rfl w) _) (fun a hA => ?_)
  refine W_val hA rfl 61 rfl (by decide) _ _ (R_ld (v := .int .u64 (t.n 58)) hA rfl rfl ag_u64 (HH.u 58 (by decide) (by decide))) (fun a hA => ?_)
  refine W_callA hA (by decide) (fun _ _ => by kernel_rfl) (args3 hA rfl rfl rfl) (dwith_any _ 7 (by decide) _ _) (fun w54 hw a hA => ?_)
  subst hw
  refine W_val hA rfl 63 rfl (by decide) _ _ (R_fa hA rfl rfl (fun w => fa_hart _ 27 58 (by decide) rfl w) _) (fun a hA => ?_)
  refine W_stU hA rfl rfl rfl rfl rfl A3 (by decide) (by decide) (fun w55 hT HN => ?_)
  replace HB := HB.trans (hT.bel _ gA3)
  replace HH := hT.hart HH (by omega)
  replace A2 := hT.hart A2 (by omega)
  replace A3 := HN
  clear hT HN
  refine W_nil ?_
  refine then_nrm ?_
  show Code.wp Try.prog _ _ _ _
  refine wp_seq ?_
  refine wp_region_list ?_
  refine W_val hA rfl 64 rfl (by decide) _ _ (R_row hA rfl rfl A3 Try.underlying25 (size_hart.trans (by rw [varr_size]))) (fun a hA => ?_)
  refine W_cpH hA rfl rfl rfl rfl rfl A2 (fun w56 hT HN => ?_)
  replace HB := HB.trans (hT.bel _ gA2)
  replace HH := hT.hart HH (by omega)
  replace A3 := hT.hart A3 (by omega)
  replace A2 := HN
  clear hT HN
  refine W_nil ?_
  refine then_nrm ?_
  show Code.wp Try.prog _ _ _ _
  refine wp_ret ?_
  refine ret_hart (j := 2) (by kernel_rfl) hA rfl A2 ⟨congrArg (fun q : HS => Ending.returned (hartV q)) ?_, HB⟩
  unfold sretZ
  rw [c1]
  rw [if_neg (by decide)]
  rw [show privS (t.n 38) = 0 by unfold privS; rw [c3]; rfl]
  refine HS.same (fun i => ?_) rfl rfl rfl
  by_cases h0 : i = 0
  · subst h0; rfl
  by_cases h33 : i = 33
  · subst h33; rfl
  by_cases h37 : i = 37
  · subst h37; rfl
  by_cases h38 : i = 38
  · subst h38; rfl
  by_cases h58 : i = 58
  · subst h58; rfl
  simp only [sretZ, HS.put, HS.putV, HS.putW, HS.putH, HS.mode, h0, h33, h37, h38, h58, if_false]
end Go.Proofs.Ytkfhpmleelmcfaa
