/- Layer 12: writing, the program's (written by gen_csi.py by walkf.py). -/
import Derived.Test.YtiblfdgmleckiaaCsG
namespace Go.Proofs.Ytiblfdgmleckiaa
open Go.RowKit
set_option linter.unusedVariables false
set_option maxRecDepth 100000

theorem HS.put_self (t : HS) (c : Nat) : t.put c (t.n c) = t := by
  unfold HS.put
  have : (fun i => if i = c then t.n c else t.n i) = t.n := funext fun i => by
    by_cases h : i = c
    · subst h; rw [if_pos rfl]
    · rw [if_neg h]
  rw [this]
theorem Tch.refl (b : Nat) (w : World) : Tch b w w := ⟨fun _ _ => Below.refl _ _, fun _ _ => rfl, rfl⟩
theorem k_of {k : Nat} (hk : k < 38) {x : Int} (e : noF k = x) : k = ixF x := by rw [← e, ixF_no k hk]
section
variable {Q : Exit → Act → World → Prop} {w : World} {ops : Array Oper} {rest : List Oper} {o : Oper} {a : Act} {l : List (Nat × Value)} {n d : Nat}
theorem W_stL3 (hA : FrA l n a) (hg : o.guard = none) (hd : o.dst = none) {x y : Operand} (ho : o.op = .store 4 x y) {b : Nat} {v : Bool} (hx : evL l x = some (.pointer (some ⟨b, 3, none⟩))) (hy : evL l y = some (.bool v)) {t : LS} (hb : LnB w b t)
    (h : ∀ w', Tch b w w' → LnB w' b { t with se := v } → wpList Try.prog ops Q rest a w') : wpList Try.prog ops Q (o :: rest) a w :=
  W_st hA hg hd ho hx hy (by simp [go_sem, storeVar, hb.c3, frozen_of_row w b 3 _ _ hb]) (h _ (Tch.setCell _) (by unfold LnB; rw [heap_setCell_same w b 3 _ _ _ hb]; rfl))
end
set_option maxHeartbeats 8000000 in
theorem put_any (k : Nat) (hk : k < 38) {b : Nat} {t : HS} {v : Int} (w : World) (HH : HartB w b t) (hv0 : 0 ≤ v) : Calls Try.prog 32 #[.pointer (some ⟨b, clF k, none⟩), .int .i64 (noF k), .int .u64 v] w fun e w' => e = .returned (.tuple #[]) ∧ (HartB w' b (t.put (clF k) (putZ k (t.n (clF k)) v)) ∧ Tch b w w') := by
  obtain ⟨k1, k2, k3⟩ := clF_in k hk
  have HB := Below.refl w.heap.size w
  go_enter Try.func32, Try.ntmps32
  refine begin_fr [(2, .int .u64 v), (1, .int .i64 (noF k)), (0, .pointer (some ⟨b, clF k, none⟩))] 30 ?_ (fun a hA => ?_)
  · exact FrA.add (FrA.add (FrA.add (FrA.nil (by rfl) (by rfl)) 0 _ (by rfl)) 1 _ (by rfl)) 2 _ (by rfl)
  refine wp_seq ?_
  refine wp_region_list ?_
  refine W_val hA rfl 7 rfl (by decide) _ _ (R_mov hA rfl rfl _) (fun a hA => ?_)
  refine W_call1 hA (by decide) (fun _ _ => by kernel_rfl) rfl (mask_any _ _) (fun w1 hw a hA => ?_)
  subst hw
  refine W_val hA rfl 6 rfl (by decide) _ _ (R_asg hA rfl rfl _) (fun a hA => ?_)
  refine W_nil ?_
  refine then_nrm ?_
  show Code.wp Try.prog _ _ _ _
  refine wp_seq ?_
  refine wp_seq ?_
  refine wp_region_list ?_
  refine W_val hA rfl 9 rfl (by decide) _ _ (R_mov hA rfl rfl _) (fun a hA => ?_)
  refine W_nil ?_
  refine then_nrm ?_
  show Code.wp Try.prog _ _ _ _
  refine wp_block ?_
  refine W_test hA rfl (by decide) (by decide) rfl rfl (fun c1 a hA => ?_) (fun c1 a hA => ?_)
  · skip
    refine wp_seq ?_
    refine wp_region_list ?_
    refine W_val hA rfl 12 rfl (by decide) _ _ (R_mov hA rfl rfl _) (fun a hA => ?_)
    refine W_call1 hA (by decide) (fun _ _ => by kernel_rfl) rfl (noMode_any _ _) (fun w2 hw a hA => ?_)
    subst hw
    refine W_nil ?_
    refine then_nrm ?_
    show Code.wp Try.prog _ _ _ _
    refine wp_cond_split (hA.ev (x := .tmp 13) rfl) (fun c2 => ?_) (fun c2 => ?_)
    · skip
      refine wp_region_list ?_
      refine W_val hA rfl 14 rfl (by decide) _ _ (R_mov hA rfl rfl _) (fun a hA => ?_)
      refine W_val hA rfl 15 rfl (by decide) _ _ (R_andNot hA rfl rfl rfl _) (fun a hA => ?_)
      refine W_val hA rfl 6 rfl (by decide) _ _ (R_asg hA rfl rfl _) (fun a hA => ?_)
      refine W_nil ?_
      refine blk_nrm ?_
      refine then_nrm ?_
      show Code.wp Try.prog _ _ _ _
      refine wp_region_list ?_
      refine W_val hA rfl 22 rfl (by decide) _ _ (R_mov hA rfl rfl _) (fun a hA => ?_)
      refine W_val hA rfl 23 rfl (by decide) _ _ (R_mov hA rfl rfl _) (fun a hA => ?_)
      refine W_val hA rfl 24 rfl (by decide) _ _ (R_nilCheck hA rfl rfl _) (fun a hA => ?_)
      refine W_val hA rfl 25 rfl (by decide) _ _ (R_ld hA rfl rfl ag_u64 (HH.u _ k2 (.inr (by omega)))) (fun a hA => ?_)
      refine W_val hA rfl 26 rfl (by decide) _ _ (R_mov hA rfl rfl _) (fun a hA => ?_)
      refine W_val hA rfl 27 rfl (by decide) _ _ (R_mov hA rfl rfl _) (fun a hA => ?_)
      refine W_call3 hA (by decide) (fun _ _ => by kernel_rfl) rfl rfl rfl (merge_any _ _ _ _) (fun w3 hw a hA => ?_)
      subst hw
      refine W_val hA rfl 29 rfl (by decide) _ _ (R_nilCheck hA rfl rfl _) (fun a hA => ?_)
      refine W_stU hA rfl rfl rfl rfl rfl HH k2 (.inr (by omega)) (fun w4 hT HN => ?_)
      refine W_nil ?_
      refine bodyPost_end (results_none (by kernel_rfl) _ _ _) hA.df ⟨rfl, ?_⟩
      have e := k_of hk (eq_of_beq c1)
      have e0 : k = 0 := e.trans (by kernel_rfl)
      subst e0
      have ez : putZ 0 (t.n (clF 0)) v = mergeZ (t.n (clF 0)) (bits .andNot .u64 (mkF 0) 6144) v := by unfold putZ; rw [if_pos rfl, c2]; rfl
      rw [ez]
      rw [maskC_all 0 hk] at HN
      exact ⟨HN, hT⟩
    refine wp_skip ?_
    refine blk_nrm ?_
    refine then_nrm ?_
    show Code.wp Try.prog _ _ _ _
    refine wp_region_list ?_
    refine W_val hA rfl 22 rfl (by decide) _ _ (R_mov hA rfl rfl _) (fun a hA => ?_)
    refine W_val hA rfl 23 rfl (by decide) _ _ (R_mov hA rfl rfl _) (fun a hA => ?_)
    refine W_val hA rfl 24 rfl (by decide) _ _ (R_nilCheck hA rfl rfl _) (fun a hA => ?_)
    refine W_val hA rfl 25 rfl (by decide) _ _ (R_ld hA rfl rfl ag_u64 (HH.u _ k2 (.inr (by omega)))) (fun a hA => ?_)
    refine W_val hA rfl 26 rfl (by decide) _ _ (R_mov hA rfl rfl _) (fun a hA => ?_)
    refine W_val hA rfl 27 rfl (by decide) _ _ (R_mov hA rfl rfl _) (fun a hA => ?_)
    refine W_call3 hA (by decide) (fun _ _ => by kernel_rfl) rfl rfl rfl (merge_any _ _ _ _) (fun w5 hw a hA => ?_)
    subst hw
    refine W_val hA rfl 29 rfl (by decide) _ _ (R_nilCheck hA rfl rfl _) (fun a hA => ?_)
    refine W_stU hA rfl rfl rfl rfl rfl HH k2 (.inr (by omega)) (fun w6 hT HN => ?_)
    refine W_nil ?_
    refine bodyPost_end (results_none (by kernel_rfl) _ _ _) hA.df ⟨rfl, ?_⟩
    have e := k_of hk (eq_of_beq c1)
    have e0 : k = 0 := e.trans (by kernel_rfl)
    subst e0
    have ez : putZ 0 (t.n (clF 0)) v = mergeZ (t.n (clF 0)) (mkF 0) v := by unfold putZ; rw [if_pos rfl, c2]; rfl
    rw [ez]
    rw [maskC_all 0 hk] at HN
    exact ⟨HN, hT⟩
  refine W_tests hA (sets_more rfl (by decide) (by decide) rfl rfl (sets_more rfl (by decide) (by decide) rfl rfl (sets_one rfl (by decide) (by decide) rfl rfl))) (fun c3 a hA => ?_) (fun c3 a hA => ?_)
  · skip
    refine wp_seq ?_
    refine wp_region_list ?_
    refine W_val hA rfl 20 rfl (by decide) _ _ (R_mov hA rfl rfl _) (fun a hA => ?_)
    refine W_call1 hA (by decide) (fun _ _ => by kernel_rfl) rfl (noTable_any _ hv0 _) (fun w7 hw a hA => ?_)
    subst hw
    refine W_nil ?_
    refine then_nrm ?_
    show Code.wp Try.prog _ _ _ _
    refine wp_cond_split (hA.ev (x := .tmp 21) rfl) (fun c4 => ?_) (fun c4 => ?_)
    · skip
      refine wp_ret ?_
      refine blk_ret ?_
      refine then_ret ?_
      refine bodyPost_ret (v := .tuple #[]) (results_none (by kernel_rfl) _ _ _) hA.df ⟨rfl, ?_⟩
      have n0 : ¬ k = 0 := fun q => by subst q; exact absurd c1 (by decide +kernel)
      have e : noF k = 384 ∨ noF k = 640 ∨ noF k = 1664 := by simpa using c3
      have e3 : k = 20 ∨ k = 37 ∨ k = 29 := by
        rcases e with e | e | e
        · exact .inl ((k_of hk e).trans (by kernel_rfl))
        · exact .inr (.inl ((k_of hk e).trans (by kernel_rfl)))
        · exact .inr (.inr ((k_of hk e).trans (by kernel_rfl)))
      have ez : putZ k (t.n (clF k)) v = t.n (clF k) := by unfold putZ; rw [if_neg n0, if_pos e3, c4]; rfl
      rw [ez, HS.put_self]
      exact ⟨HH, Tch.refl _ _⟩
    refine wp_skip ?_
    refine blk_nrm ?_
    refine then_nrm ?_
    show Code.wp Try.prog _ _ _ _
    refine wp_region_list ?_
    refine W_val hA rfl 22 rfl (by decide) _ _ (R_mov hA rfl rfl _) (fun a hA => ?_)
    refine W_val hA rfl 23 rfl (by decide) _ _ (R_mov hA rfl rfl _) (fun a hA => ?_)
    refine W_val hA rfl 24 rfl (by decide) _ _ (R_nilCheck hA rfl rfl _) (fun a hA => ?_)
    refine W_val hA rfl 25 rfl (by decide) _ _ (R_ld hA rfl rfl ag_u64 (HH.u _ k2 (.inr (by omega)))) (fun a hA => ?_)
    refine W_val hA rfl 26 rfl (by decide) _ _ (R_mov hA rfl rfl _) (fun a hA => ?_)
    refine W_val hA rfl 27 rfl (by decide) _ _ (R_mov hA rfl rfl _) (fun a hA => ?_)
    refine W_call3 hA (by decide) (fun _ _ => by kernel_rfl) rfl rfl rfl (merge_any _ _ _ _) (fun w8 hw a hA => ?_)
    subst hw
    refine W_val hA rfl 29 rfl (by decide) _ _ (R_nilCheck hA rfl rfl _) (fun a hA => ?_)
    refine W_stU hA rfl rfl rfl rfl rfl HH k2 (.inr (by omega)) (fun w9 hT HN => ?_)
    refine W_nil ?_
    refine bodyPost_end (results_none (by kernel_rfl) _ _ _) hA.df ⟨rfl, ?_⟩
    have n0 : ¬ k = 0 := fun q => by subst q; exact absurd c1 (by decide +kernel)
    have e : noF k = 384 ∨ noF k = 640 ∨ noF k = 1664 := by simpa using c3
    have e3 : k = 20 ∨ k = 37 ∨ k = 29 := by
      rcases e with e | e | e
      · exact .inl ((k_of hk e).trans (by kernel_rfl))
      · exact .inr (.inl ((k_of hk e).trans (by kernel_rfl)))
      · exact .inr (.inr ((k_of hk e).trans (by kernel_rfl)))
    have ez : putZ k (t.n (clF k)) v = mergeZ (t.n (clF k)) (mkF k) v := by unfold putZ; rw [if_neg n0, if_pos e3, c4]; rfl
    rw [ez]
    rw [maskC_all k hk] at HN
    exact ⟨HN, hT⟩
  refine wp_skip ?_
  refine blk_nrm ?_
  refine then_nrm ?_
  show Code.wp Try.prog _ _ _ _
  refine wp_region_list ?_
  refine W_val hA rfl 22 rfl (by decide) _ _ (R_mov hA rfl rfl _) (fun a hA => ?_)
  refine W_val hA rfl 23 rfl (by decide) _ _ (R_mov hA rfl rfl _) (fun a hA => ?_)
  refine W_val hA rfl 24 rfl (by decide) _ _ (R_nilCheck hA rfl rfl _) (fun a hA => ?_)
  refine W_val hA rfl 25 rfl (by decide) _ _ (R_ld hA rfl rfl ag_u64 (HH.u _ k2 (.inr (by omega)))) (fun a hA => ?_)
  refine W_val hA rfl 26 rfl (by decide) _ _ (R_mov hA rfl rfl _) (fun a hA => ?_)
  refine W_val hA rfl 27 rfl (by decide) _ _ (R_mov hA rfl rfl _) (fun a hA => ?_)
  refine W_call3 hA (by decide) (fun _ _ => by kernel_rfl) rfl rfl rfl (merge_any _ _ _ _) (fun w10 hw a hA => ?_)
  subst hw
  refine W_val hA rfl 29 rfl (by decide) _ _ (R_nilCheck hA rfl rfl _) (fun a hA => ?_)
  refine W_stU hA rfl rfl rfl rfl rfl HH k2 (.inr (by omega)) (fun w11 hT HN => ?_)
  refine W_nil ?_
  refine bodyPost_end (results_none (by kernel_rfl) _ _ _) hA.df ⟨rfl, ?_⟩
  have n0 : ¬ k = 0 := fun q => by subst q; exact absurd c1 (by decide +kernel)
  have e3 : ¬ (k = 20 ∨ k = 37 ∨ k = 29) := by
    rintro (q | q | q)
    · subst q; exact absurd c3 (by decide +kernel)
    · subst q; exact absurd c3 (by decide +kernel)
    · subst q; exact absurd c3 (by decide +kernel)
  have ez : putZ k (t.n (clF k)) v = mergeZ (t.n (clF k)) (mkF k) v := by unfold putZ; rw [if_neg n0, if_neg e3]
  rw [ez]
  rw [maskC_all k hk] at HN
  exact ⟨HN, hT⟩
set_option maxHeartbeats 8000000 in
theorem writeView_any (t : HS) (m v : Int) (w : World) : Calls Try.prog 33 #[hartV t, .int .i64 m, .int .u64 v] w fun e w' => e = .returned (hartV (viewW t m v)) ∧ Below w.heap.size w w' := by
  have HB := Below.refl w.heap.size w
  go_enter Try.func33, Try.ntmps33
  refine begin_fr [(2, .int .u64 v), (1, .int .i64 m), (0, hartV t)] 77 ?_ (fun a hA => ?_)
  · exact FrA.add (FrA.add (FrA.add (FrA.nil (by rfl) (by rfl)) 0 _ (by rfl)) 1 _ (by rfl)) 2 _ (by rfl)
  refine wp_seq ?_
  refine wp_region_list ?_
  refine W_boxH hA rfl 3 rfl (by decide) rfl rfl (fun w1 bHH a hA hb HH gHH => ?_)
  replace gHH := Nat.le_trans HB.size gHH
  replace HB := HB.trans (hb.mono HB.size)
  clear hb
  refine W_allocH hA rfl 6 rfl (by decide) rfl (fun w2 bRR a hA hb RR gRR => ?_)
  have nHHRR : bHH < bRR := by have := HH.lt; omega
  replace HH := HH.below hb
  replace gRR := Nat.le_trans HB.size gRR
  replace HB := HB.trans (hb.mono HB.size)
  clear hb
  refine W_nil ?_
  refine then_nrm ?_
  show Code.wp Try.prog _ _ _ _
  refine wp_seq ?_
  refine wp_seq ?_
  refine wp_region_list ?_
  refine W_val hA rfl 7 rfl (by decide) _ _ (R_mov hA rfl rfl _) (fun a hA => ?_)
  refine W_nil ?_
  refine then_nrm ?_
  show Code.wp Try.prog _ _ _ _
  refine wp_block ?_
  refine wp_seq ?_
  refine wp_block ?_
  refine wp_seq ?_
  refine wp_block ?_
  refine wp_seq ?_
  refine wp_block ?_
  refine wp_seq ?_
  refine wp_block ?_
  refine wp_seq ?_
  refine wp_block ?_
  refine wp_seq ?_
  refine wp_block ?_
  refine wp_seq ?_
  refine wp_block ?_
  refine wp_seq ?_
  refine wp_seq ?_
  refine W_test hA rfl (by decide) (by decide) rfl rfl (fun c1 a hA => ?_) (fun c1 a hA => ?_)
  · skip
    refine wp_exit ?_
    refine then_ext ?_
    refine then_ext ?_
    refine blk_eq ?_
    refine then_nrm ?_
    show Code.wp Try.prog _ _ _ _
    refine wp_seq ?_
    refine still_tail 7 (by kernel_rfl) (fun w4 hw => ?_)
    replace HB := HB.trans (hw.mono HB.size)
    replace HH := HH.below hw
    replace RR := RR.below hw
    clear hw
    refine S_val hA rfl 23 rfl (by decide) _ (R_fa hA rfl rfl (fun w => fa_hart _ 7 38 (by decide) rfl w) _) (fun a hA => ?_)
    refine S_val hA rfl 24 rfl (by decide) _ (R_ld hA rfl rfl ag_u64 (HH.u 38 (by decide) (by decide))) (fun a hA => ?_)
    refine S_val hA rfl 25 rfl (by decide) _ (R_mov hA rfl rfl _) (fun a hA => ?_)
    refine S_call hA (by decide) (fun _ _ => by kernel_rfl) (args1 hA rfl) (mask_any _ _) (fun a hA => ?_)
    refine S_val hA rfl 27 rfl (by decide) _ (R_mov hA rfl rfl _) (fun a hA => ?_)
    refine S_call hA (by decide) (fun _ _ => by kernel_rfl) (args3 hA rfl rfl rfl) (merge_any _ _ _ _) (fun a hA => ?_)
    refine S_val hA rfl 29 rfl (by decide) _ (R_fa hA rfl rfl (fun w => fa_hart _ 7 38 (by decide) rfl w) _) (fun a hA => ?_)
    refine still_nil ?_
    refine W_stU hA rfl rfl rfl rfl rfl HH (by decide) (by decide) (fun w3 hT HN => ?_)
    replace HB := HB.trans (hT.bel _ gHH)
    replace RR := hT.hart RR (by omega)
    replace HH := HN
    clear hT HN
    refine W_nil ?_
    refine then_nrm ?_
    show Code.wp Try.prog _ _ _ _
    refine wp_exit ?_
    refine blk_ne (by decide) ?_
    refine then_ext ?_
    refine blk_ne (by decide) ?_
    refine then_ext ?_
    refine blk_ne (by decide) ?_
    refine then_ext ?_
    refine blk_ne (by decide) ?_
    refine then_ext ?_
    refine blk_ne (by decide) ?_
    refine then_ext ?_
    refine blk_ne (by decide) ?_
    refine then_ext ?_
    refine blk_eq ?_
    refine then_nrm ?_
    show Code.wp Try.prog _ _ _ _
    refine wp_seq ?_
    refine wp_region_list ?_
    refine W_val hA rfl 76 rfl (by decide) _ _ (R_row hA rfl rfl HH Try.underlying25 (size_hart.trans (by rw [varr_size]))) (fun a hA => ?_)
    refine W_cpH hA rfl rfl rfl rfl rfl RR (fun w4 hT HN => ?_)
    replace HB := HB.trans (hT.bel _ gRR)
    replace HH := hT.hart HH (by omega)
    replace RR := HN
    clear hT HN
    refine W_nil ?_
    refine then_nrm ?_
    show Code.wp Try.prog _ _ _ _
    refine wp_ret ?_
    refine ret_hart (j := 6) (by kernel_rfl) hA rfl RR ?_
    refine ⟨congrArg (fun s : HS => Ending.returned (hartV s)) ?_, HB⟩
    have e := eq_of_beq c1
    subst e
    rfl
  refine wp_skip ?_
  refine then_nrm ?_
  show Code.wp Try.prog _ _ _ _
  refine wp_seq ?_
  refine W_test hA rfl (by decide) (by decide) rfl rfl (fun c2 a hA => ?_) (fun c2 a hA => ?_)
  · skip
    refine wp_exit ?_
    refine then_ext ?_
    refine then_ext ?_
    refine blk_ne (by decide) ?_
    refine then_ext ?_
    refine blk_eq ?_
    refine then_nrm ?_
    show Code.wp Try.prog _ _ _ _
    refine still_tail 7 (by kernel_rfl) (fun w4 hw => ?_)
    replace HB := HB.trans (hw.mono HB.size)
    replace HH := HH.below hw
    replace RR := RR.below hw
    clear hw
    refine S_val hA rfl 30 rfl (by decide) _ (R_fa hA rfl rfl (fun w => fa_hart _ 11 42 (by decide) rfl w) _) (fun a hA => ?_)
    refine S_val hA rfl 31 rfl (by decide) _ (R_ld hA rfl rfl ag_u64 (HH.u 42 (by decide) (by decide))) (fun a hA => ?_)
    refine S_val hA rfl 32 rfl (by decide) _ (R_mov hA rfl rfl _) (fun a hA => ?_)
    refine S_call hA (by decide) (fun _ _ => by kernel_rfl) (args1 hA rfl) (mask_any _ _) (fun a hA => ?_)
    refine S_val hA rfl 34 rfl (by decide) _ (R_mov hA rfl rfl _) (fun a hA => ?_)
    refine S_call hA (by decide) (fun _ _ => by kernel_rfl) (args3 hA rfl rfl rfl) (merge_any _ _ _ _) (fun a hA => ?_)
    refine S_val hA rfl 36 rfl (by decide) _ (R_fa hA rfl rfl (fun w => fa_hart _ 11 42 (by decide) rfl w) _) (fun a hA => ?_)
    refine still_nil ?_
    refine W_stU hA rfl rfl rfl rfl rfl HH (by decide) (by decide) (fun w5 hT HN => ?_)
    replace HB := HB.trans (hT.bel _ gHH)
    replace RR := hT.hart RR (by omega)
    replace HH := HN
    clear hT HN
    refine W_nil ?_
    refine blk_nrm ?_
    refine then_nrm ?_
    show Code.wp Try.prog _ _ _ _
    refine wp_seq ?_
    refine wp_region_list ?_
    refine W_val hA rfl 37 rfl (by decide) _ _ (R_fa hA rfl rfl (fun w => fa_hart _ 30 61 (by decide) rfl w) _) (fun a hA => ?_)
    refine W_val hA rfl 38 rfl (by decide) _ _ (R_ld hA rfl rfl ag_u64 (HH.u 61 (by decide) (by decide))) (fun a hA => ?_)
    refine W_val hA rfl 39 rfl (by decide) _ _ (R_mov hA rfl rfl _) (fun a hA => ?_)
    refine W_call3 hA (by decide) (fun _ _ => by kernel_rfl) rfl rfl rfl (merge_any _ _ _ _) (fun w6 hw a hA => ?_)
    subst hw
    refine W_val hA rfl 41 rfl (by decide) _ _ (R_fa hA rfl rfl (fun w => fa_hart _ 30 61 (by decide) rfl w) _) (fun a hA => ?_)
    refine W_stU hA rfl rfl rfl rfl rfl HH (by decide) (by decide) (fun w7 hT HN => ?_)
    replace HB := HB.trans (hT.bel _ gHH)
    replace RR := hT.hart RR (by omega)
    replace HH := HN
    clear hT HN
    refine W_nil ?_
    refine then_nrm ?_
    show Code.wp Try.prog _ _ _ _
    refine wp_exit ?_
    refine blk_ne (by decide) ?_
    refine then_ext ?_
    refine blk_ne (by decide) ?_
    refine then_ext ?_
    refine blk_ne (by decide) ?_
    refine then_ext ?_
    refine blk_ne (by decide) ?_
    refine then_ext ?_
    refine blk_eq ?_
    refine then_nrm ?_
    show Code.wp Try.prog _ _ _ _
    refine wp_seq ?_
    refine wp_region_list ?_
    refine W_val hA rfl 76 rfl (by decide) _ _ (R_row hA rfl rfl HH Try.underlying25 (size_hart.trans (by rw [varr_size]))) (fun a hA => ?_)
    refine W_cpH hA rfl rfl rfl rfl rfl RR (fun w8 hT HN => ?_)
    replace HB := HB.trans (hT.bel _ gRR)
    replace HH := hT.hart HH (by omega)
    replace RR := HN
    clear hT HN
    refine W_nil ?_
    refine then_nrm ?_
    show Code.wp Try.prog _ _ _ _
    refine wp_ret ?_
    refine ret_hart (j := 6) (by kernel_rfl) hA rfl RR ?_
    refine ⟨congrArg (fun s : HS => Ending.returned (hartV s)) ?_, HB⟩
    have e := eq_of_beq c2
    subst e
    rfl
  refine wp_skip ?_
  refine then_nrm ?_
  show Code.wp Try.prog _ _ _ _
  refine wp_seq ?_
  refine W_test hA rfl (by decide) (by decide) rfl rfl (fun c3 a hA => ?_) (fun c3 a hA => ?_)
  · skip
    refine wp_exit ?_
    refine then_ext ?_
    refine then_ext ?_
    refine blk_ne (by decide) ?_
    refine then_ext ?_
    refine blk_ne (by decide) ?_
    refine then_ext ?_
    refine blk_eq ?_
    refine then_nrm ?_
    show Code.wp Try.prog _ _ _ _
    refine wp_seq ?_
    refine wp_region_list ?_
    refine W_val hA rfl 37 rfl (by decide) _ _ (R_fa hA rfl rfl (fun w => fa_hart _ 30 61 (by decide) rfl w) _) (fun a hA => ?_)
    refine W_val hA rfl 38 rfl (by decide) _ _ (R_ld hA rfl rfl ag_u64 (HH.u 61 (by decide) (by decide))) (fun a hA => ?_)
    refine W_val hA rfl 39 rfl (by decide) _ _ (R_mov hA rfl rfl _) (fun a hA => ?_)
    refine W_call3 hA (by decide) (fun _ _ => by kernel_rfl) rfl rfl rfl (merge_any _ _ _ _) (fun w9 hw a hA => ?_)
    subst hw
    refine W_val hA rfl 41 rfl (by decide) _ _ (R_fa hA rfl rfl (fun w => fa_hart _ 30 61 (by decide) rfl w) _) (fun a hA => ?_)
    refine W_stU hA rfl rfl rfl rfl rfl HH (by decide) (by decide) (fun w10 hT HN => ?_)
    replace HB := HB.trans (hT.bel _ gHH)
    replace RR := hT.hart RR (by omega)
    replace HH := HN
    clear hT HN
    refine W_nil ?_
    refine then_nrm ?_
    show Code.wp Try.prog _ _ _ _
    refine wp_exit ?_
    refine blk_ne (by decide) ?_
    refine then_ext ?_
    refine blk_ne (by decide) ?_
    refine then_ext ?_
    refine blk_ne (by decide) ?_
    refine then_ext ?_
    refine blk_ne (by decide) ?_
    refine then_ext ?_
    refine blk_eq ?_
    refine then_nrm ?_
    show Code.wp Try.prog _ _ _ _
    refine wp_seq ?_
    refine wp_region_list ?_
    refine W_val hA rfl 76 rfl (by decide) _ _ (R_row hA rfl rfl HH Try.underlying25 (size_hart.trans (by rw [varr_size]))) (fun a hA => ?_)
    refine W_cpH hA rfl rfl rfl rfl rfl RR (fun w11 hT HN => ?_)
    replace HB := HB.trans (hT.bel _ gRR)
    replace HH := hT.hart HH (by omega)
    replace RR := HN
    clear hT HN
    refine W_nil ?_
    refine then_nrm ?_
    show Code.wp Try.prog _ _ _ _
    refine wp_ret ?_
    refine ret_hart (j := 6) (by kernel_rfl) hA rfl RR ?_
    refine ⟨congrArg (fun s : HS => Ending.returned (hartV s)) ?_, HB⟩
    have e := eq_of_beq c3
    subst e
    rfl
  refine wp_skip ?_
  refine then_nrm ?_
  show Code.wp Try.prog _ _ _ _
  refine wp_seq ?_
  refine W_test hA rfl (by decide) (by decide) rfl rfl (fun c4 a hA => ?_) (fun c4 a hA => ?_)
  · skip
    refine wp_exit ?_
    refine then_ext ?_
    refine then_ext ?_
    refine blk_ne (by decide) ?_
    refine then_ext ?_
    refine blk_ne (by decide) ?_
    refine then_ext ?_
    refine blk_ne (by decide) ?_
    refine then_ext ?_
    refine blk_eq ?_
    refine then_nrm ?_
    show Code.wp Try.prog _ _ _ _
    refine wp_seq ?_
    refine wp_region_list ?_
    refine W_val hA rfl 42 rfl (by decide) _ _ (R_fa hA rfl rfl (fun w => fa_hart _ 11 42 (by decide) rfl w) _) (fun a hA => ?_)
    refine W_val hA rfl 43 rfl (by decide) _ _ (R_ld hA rfl rfl ag_u64 (HH.u 42 (by decide) (by decide))) (fun a hA => ?_)
    refine W_val hA rfl 44 rfl (by decide) _ _ (R_fa hA rfl rfl (fun w => fa_hart _ 9 40 (by decide) rfl w) _) (fun a hA => ?_)
    refine W_val hA rfl 45 rfl (by decide) _ _ (R_ld hA rfl rfl ag_u64 (HH.u 40 (by decide) (by decide))) (fun a hA => ?_)
    refine W_val hA rfl 46 rfl (by decide) _ _ (R_and hA rfl rfl rfl _) (fun a hA => ?_)
    refine W_val hA rfl 47 rfl (by decide) _ _ (R_mov hA rfl rfl _) (fun a hA => ?_)
    refine W_call3 hA (by decide) (fun _ _ => by kernel_rfl) rfl rfl rfl (merge_any _ _ _ _) (fun w12 hw a hA => ?_)
    subst hw
    refine W_val hA rfl 49 rfl (by decide) _ _ (R_fa hA rfl rfl (fun w => fa_hart _ 11 42 (by decide) rfl w) _) (fun a hA => ?_)
    refine W_stU hA rfl rfl rfl rfl rfl HH (by decide) (by decide) (fun w13 hT HN => ?_)
    replace HB := HB.trans (hT.bel _ gHH)
    replace RR := hT.hart RR (by omega)
    replace HH := HN
    clear hT HN
    refine W_nil ?_
    refine then_nrm ?_
    show Code.wp Try.prog _ _ _ _
    refine wp_exit ?_
    refine blk_ne (by decide) ?_
    refine then_ext ?_
    refine blk_ne (by decide) ?_
    refine then_ext ?_
    refine blk_ne (by decide) ?_
    refine then_ext ?_
    refine blk_eq ?_
    refine then_nrm ?_
    show Code.wp Try.prog _ _ _ _
    refine wp_seq ?_
    refine wp_region_list ?_
    refine W_val hA rfl 76 rfl (by decide) _ _ (R_row hA rfl rfl HH Try.underlying25 (size_hart.trans (by rw [varr_size]))) (fun a hA => ?_)
    refine W_cpH hA rfl rfl rfl rfl rfl RR (fun w14 hT HN => ?_)
    replace HB := HB.trans (hT.bel _ gRR)
    replace HH := hT.hart HH (by omega)
    replace RR := HN
    clear hT HN
    refine W_nil ?_
    refine then_nrm ?_
    show Code.wp Try.prog _ _ _ _
    refine wp_ret ?_
    refine ret_hart (j := 6) (by kernel_rfl) hA rfl RR ?_
    refine ⟨congrArg (fun s : HS => Ending.returned (hartV s)) ?_, HB⟩
    have e := eq_of_beq c4
    subst e
    rfl
  refine wp_skip ?_
  refine then_nrm ?_
  show Code.wp Try.prog _ _ _ _
  refine wp_seq ?_
  refine W_test hA rfl (by decide) (by decide) rfl rfl (fun c5 a hA => ?_) (fun c5 a hA => ?_)
  · skip
    refine wp_exit ?_
    refine then_ext ?_
    refine then_ext ?_
    refine blk_ne (by decide) ?_
    refine then_ext ?_
    refine blk_ne (by decide) ?_
    refine then_ext ?_
    refine blk_ne (by decide) ?_
    refine then_ext ?_
    refine blk_ne (by decide) ?_
    refine then_ext ?_
    refine blk_eq ?_
    refine then_nrm ?_
    show Code.wp Try.prog _ _ _ _
    refine wp_seq ?_
    refine wp_region_list ?_
    refine W_val hA rfl 50 rfl (by decide) _ _ (R_fa hA rfl rfl (fun w => fa_hart _ 30 61 (by decide) rfl w) _) (fun a hA => ?_)
    refine W_val hA rfl 51 rfl (by decide) _ _ (R_ld hA rfl rfl ag_u64 (HH.u 61 (by decide) (by decide))) (fun a hA => ?_)
    refine W_val hA rfl 52 rfl (by decide) _ _ (R_fa hA rfl rfl (fun w => fa_hart _ 29 60 (by decide) rfl w) _) (fun a hA => ?_)
    refine W_val hA rfl 53 rfl (by decide) _ _ (R_ld hA rfl rfl ag_u64 (HH.u 60 (by decide) (by decide))) (fun a hA => ?_)
    refine W_val hA rfl 54 rfl (by decide) _ _ (R_and hA rfl rfl rfl _) (fun a hA => ?_)
    refine W_val hA rfl 55 rfl (by decide) _ _ (R_mov hA rfl rfl _) (fun a hA => ?_)
    refine W_val hA rfl 56 rfl (by decide) _ _ (R_shl1 hA rfl rfl rfl _) (fun a hA => ?_)
    refine W_call3 hA (by decide) (fun _ _ => by kernel_rfl) rfl rfl rfl (merge_any _ _ _ _) (fun w15 hw a hA => ?_)
    subst hw
    refine W_val hA rfl 58 rfl (by decide) _ _ (R_fa hA rfl rfl (fun w => fa_hart _ 30 61 (by decide) rfl w) _) (fun a hA => ?_)
    refine W_stU hA rfl rfl rfl rfl rfl HH (by decide) (by decide) (fun w16 hT HN => ?_)
    replace HB := HB.trans (hT.bel _ gHH)
    replace RR := hT.hart RR (by omega)
    replace HH := HN
    clear hT HN
    refine W_nil ?_
    refine then_nrm ?_
    show Code.wp Try.prog _ _ _ _
    refine wp_exit ?_
    refine blk_ne (by decide) ?_
    refine then_ext ?_
    refine blk_ne (by decide) ?_
    refine then_ext ?_
    refine blk_eq ?_
    refine then_nrm ?_
    show Code.wp Try.prog _ _ _ _
    refine wp_seq ?_
    refine wp_region_list ?_
    refine W_val hA rfl 76 rfl (by decide) _ _ (R_row hA rfl rfl HH Try.underlying25 (size_hart.trans (by rw [varr_size]))) (fun a hA => ?_)
    refine W_cpH hA rfl rfl rfl rfl rfl RR (fun w17 hT HN => ?_)
    replace HB := HB.trans (hT.bel _ gRR)
    replace HH := hT.hart HH (by omega)
    replace RR := HN
    clear hT HN
    refine W_nil ?_
    refine then_nrm ?_
    show Code.wp Try.prog _ _ _ _
    refine wp_ret ?_
    refine ret_hart (j := 6) (by kernel_rfl) hA rfl RR ?_
    refine ⟨congrArg (fun s : HS => Ending.returned (hartV s)) ?_, HB⟩
    have e := eq_of_beq c5
    subst e
    rfl
  refine wp_skip ?_
  refine then_nrm ?_
  show Code.wp Try.prog _ _ _ _
  refine wp_seq ?_
  refine W_tests hA (sets_more rfl (by decide) (by decide) rfl rfl (sets_one rfl (by decide) (by decide) rfl rfl)) (fun c6 a hA => ?_) (fun c6 a hA => ?_)
  · skip
    refine wp_exit ?_
    refine then_ext ?_
    refine then_ext ?_
    refine blk_ne (by decide) ?_
    refine then_ext ?_
    refine blk_ne (by decide) ?_
    refine then_ext ?_
    refine blk_ne (by decide) ?_
    refine then_ext ?_
    refine blk_ne (by decide) ?_
    refine then_ext ?_
    refine blk_ne (by decide) ?_
    refine then_ext ?_
    refine blk_eq ?_
    refine then_nrm ?_
    show Code.wp Try.prog _ _ _ _
    refine wp_seq ?_
    refine wp_region_held_drew (S := fun wx => Below w.heap.size w wx) (by kernel_rfl) (HB.drew) (fun HB => ?_)
    replace HH := HH.below ((Below.refl _ _).drew)
    replace RR := RR.below ((Below.refl _ _).drew)
    generalize World.drew _ = w18 at *
    refine takeF (i := 0) hA 59 rfl rfl (by decide) rfl (by kernel_rfl) (by kernel_rfl) (by kernel_rfl) (fun _ _ _ h => h) HB (fun wx hx => R_fa hA rfl rfl (fun w => fa_hart _ 10 41 (by decide) rfl w) _) (fun a hA => ?_)
    refine takeF (i := 3) hA 62 rfl rfl (by decide) rfl (by kernel_rfl) (by kernel_rfl) (by kernel_rfl) (fun _ _ _ h => h) HB (fun wx hx => R_mov hA rfl rfl _) (fun a hA => ?_)
    refine takeF (i := 5) hA 64 rfl rfl (by decide) rfl (by kernel_rfl) (by kernel_rfl) (by kernel_rfl) (fun _ _ _ h => h) HB (fun wx hx => R_mov hA rfl rfl _) (fun a hA => ?_)
    refine wpAnyH_ready (rs := [1, 2]) (by kernel_rfl) (by simp) ?_
    refine ready_val (i := 1) hA 60 rfl rfl (by decide) rfl HB (R_ld hA rfl rfl ag_u64 (HH.u 41 (by decide) (by decide))) (fun a hA => ?_) ?_
    · skip
      refine wpAnyH_ready (rs := [2]) (by kernel_rfl) (by simp) ?_
      refine ready_val (i := 2) hA 61 rfl rfl (by decide) rfl HB (R_row hA rfl rfl HH Try.underlying25 (size_hart.trans (by rw [varr_size]))) (fun a hA => ?_) ?_
      · skip
        refine wpAnyH_ready (rs := [4]) (by kernel_rfl) (by simp) ?_
        refine ready_call (i := 4) hA (by decide) rfl (fun _ _ => by kernel_rfl) (args2 hA rfl rfl) (part_any _ _ _) (fun _ h => HB.trans (h.mono HB.size)) (fun w19 hw a hA => ?_) ?_
        · skip
          replace HB := HB.trans (hw.mono HB.size)
          replace HH := HH.below hw
          replace RR := RR.below hw
          clear hw
          refine wpAnyH_ready (rs := [6]) (by kernel_rfl) (by simp) ?_
          refine ready_call (i := 6) hA (by decide) rfl (fun _ _ => by kernel_rfl) (args3 hA rfl rfl rfl) (merge_any _ _ _ _) (fun _ h => h ▸ HB) (fun w20 hw a hA => ?_) ?_
          · skip
            subst hw
            refine takeF (i := 7) hA 66 rfl rfl (by decide) rfl (by kernel_rfl) (by kernel_rfl) (by kernel_rfl) (fun _ _ _ h => h) HB (fun wx hx => R_fa hA rfl rfl (fun w => fa_hart _ 10 41 (by decide) rfl w) _) (fun a hA => ?_)
            refine wpAnyH_ready (rs := [8]) (by kernel_rfl) (by simp) ?_
            refine ready_stU (i := 8) hA rfl rfl rfl rfl rfl rfl HH (by decide) (by decide) (fun _ hT => HB.trans (hT.bel _ gHH)) (fun w21 hT HN => ?_) ?_
            · skip
              replace HB := HB.trans (hT.bel _ gHH)
              replace RR := hT.hart RR (by omega)
              replace HH := HN
              clear hT HN
              refine wpAnyH_done (by kernel_rfl) ?_ _
              refine then_nrm ?_
              show Code.wp Try.prog _ _ _ _
              refine wp_exit ?_
              refine blk_ne (by decide) ?_
              refine then_ext ?_
              refine blk_eq ?_
              refine then_nrm ?_
              show Code.wp Try.prog _ _ _ _
              refine wp_seq ?_
              refine wp_region_list ?_
              refine W_val hA rfl 76 rfl (by decide) _ _ (R_row hA rfl rfl HH Try.underlying25 (size_hart.trans (by rw [varr_size]))) (fun a hA => ?_)
              refine W_cpH hA rfl rfl rfl rfl rfl RR (fun w22 hT HN => ?_)
              replace HB := HB.trans (hT.bel _ gRR)
              replace HH := hT.hart HH (by omega)
              replace RR := HN
              clear hT HN
              refine W_nil ?_
              refine then_nrm ?_
              show Code.wp Try.prog _ _ _ _
              refine wp_ret ?_
              refine ret_hart (j := 6) (by kernel_rfl) hA rfl RR ?_
              refine ⟨congrArg (fun s : HS => Ending.returned (hartV s)) ?_, HB⟩
              have e : m = 260 ∨ m = 1540 := by simpa using c6
              rcases e with e | e
              all_goals
                subst e
                rfl
            exact AllReadyH.nil
          exact AllReadyH.nil
        exact AllReadyH.nil
      exact AllReadyH.nil
    refine ready_val (i := 2) hA 61 rfl rfl (by decide) rfl HB (R_row hA rfl rfl HH Try.underlying25 (size_hart.trans (by rw [varr_size]))) (fun a hA => ?_) ?_
    · skip
      refine wpAnyH_ready (rs := [1, 4]) (by kernel_rfl) (by simp) ?_
      refine ready_val (i := 1) hA 60 rfl rfl (by decide) rfl HB (R_ld hA rfl rfl ag_u64 (HH.u 41 (by decide) (by decide))) (fun a hA => ?_) ?_
      · skip
        refine wpAnyH_ready (rs := [4]) (by kernel_rfl) (by simp) ?_
        refine ready_call (i := 4) hA (by decide) rfl (fun _ _ => by kernel_rfl) (args2 hA rfl rfl) (part_any _ _ _) (fun _ h => HB.trans (h.mono HB.size)) (fun w23 hw a hA => ?_) ?_
        · skip
          replace HB := HB.trans (hw.mono HB.size)
          replace HH := HH.below hw
          replace RR := RR.below hw
          clear hw
          refine wpAnyH_ready (rs := [6]) (by kernel_rfl) (by simp) ?_
          refine ready_call (i := 6) hA (by decide) rfl (fun _ _ => by kernel_rfl) (args3 hA rfl rfl rfl) (merge_any _ _ _ _) (fun _ h => h ▸ HB) (fun w24 hw a hA => ?_) ?_
          · skip
            subst hw
            refine takeF (i := 7) hA 66 rfl rfl (by decide) rfl (by kernel_rfl) (by kernel_rfl) (by kernel_rfl) (fun _ _ _ h => h) HB (fun wx hx => R_fa hA rfl rfl (fun w => fa_hart _ 10 41 (by decide) rfl w) _) (fun a hA => ?_)
            refine wpAnyH_ready (rs := [8]) (by kernel_rfl) (by simp) ?_
            refine ready_stU (i := 8) hA rfl rfl rfl rfl rfl rfl HH (by decide) (by decide) (fun _ hT => HB.trans (hT.bel _ gHH)) (fun w25 hT HN => ?_) ?_
            · skip
              replace HB := HB.trans (hT.bel _ gHH)
              replace RR := hT.hart RR (by omega)
              replace HH := HN
              clear hT HN
              refine wpAnyH_done (by kernel_rfl) ?_ _
              refine then_nrm ?_
              show Code.wp Try.prog _ _ _ _
              refine wp_exit ?_
              refine blk_ne (by decide) ?_
              refine then_ext ?_
              refine blk_eq ?_
              refine then_nrm ?_
              show Code.wp Try.prog _ _ _ _
              refine wp_seq ?_
              refine wp_region_list ?_
              refine W_val hA rfl 76 rfl (by decide) _ _ (R_row hA rfl rfl HH Try.underlying25 (size_hart.trans (by rw [varr_size]))) (fun a hA => ?_)
              refine W_cpH hA rfl rfl rfl rfl rfl RR (fun w26 hT HN => ?_)
              replace HB := HB.trans (hT.bel _ gRR)
              replace HH := hT.hart HH (by omega)
              replace RR := HN
              clear hT HN
              refine W_nil ?_
              refine then_nrm ?_
              show Code.wp Try.prog _ _ _ _
              refine wp_ret ?_
              refine ret_hart (j := 6) (by kernel_rfl) hA rfl RR ?_
              refine ⟨congrArg (fun s : HS => Ending.returned (hartV s)) ?_, HB⟩
              have e : m = 260 ∨ m = 1540 := by simpa using c6
              rcases e with e | e
              all_goals
                subst e
                rfl
            exact AllReadyH.nil
          exact AllReadyH.nil
        exact AllReadyH.nil
      refine ready_call (i := 4) hA (by decide) rfl (fun _ _ => by kernel_rfl) (args2 hA rfl rfl) (part_any _ _ _) (fun _ h => HB.trans (h.mono HB.size)) (fun w27 hw a hA => ?_) ?_
      · skip
        replace HB := HB.trans (hw.mono HB.size)
        replace HH := HH.below hw
        replace RR := RR.below hw
        clear hw
        refine wpAnyH_ready (rs := [1]) (by kernel_rfl) (by simp) ?_
        refine ready_val (i := 1) hA 60 rfl rfl (by decide) rfl HB (R_ld hA rfl rfl ag_u64 (HH.u 41 (by decide) (by decide))) (fun a hA => ?_) ?_
        · skip
          refine wpAnyH_ready (rs := [6]) (by kernel_rfl) (by simp) ?_
          refine ready_call (i := 6) hA (by decide) rfl (fun _ _ => by kernel_rfl) (args3 hA rfl rfl rfl) (merge_any _ _ _ _) (fun _ h => h ▸ HB) (fun w28 hw a hA => ?_) ?_
          · skip
            subst hw
            refine takeF (i := 7) hA 66 rfl rfl (by decide) rfl (by kernel_rfl) (by kernel_rfl) (by kernel_rfl) (fun _ _ _ h => h) HB (fun wx hx => R_fa hA rfl rfl (fun w => fa_hart _ 10 41 (by decide) rfl w) _) (fun a hA => ?_)
            refine wpAnyH_ready (rs := [8]) (by kernel_rfl) (by simp) ?_
            refine ready_stU (i := 8) hA rfl rfl rfl rfl rfl rfl HH (by decide) (by decide) (fun _ hT => HB.trans (hT.bel _ gHH)) (fun w29 hT HN => ?_) ?_
            · skip
              replace HB := HB.trans (hT.bel _ gHH)
              replace RR := hT.hart RR (by omega)
              replace HH := HN
              clear hT HN
              refine wpAnyH_done (by kernel_rfl) ?_ _
              refine then_nrm ?_
              show Code.wp Try.prog _ _ _ _
              refine wp_exit ?_
              refine blk_ne (by decide) ?_
              refine then_ext ?_
              refine blk_eq ?_
              refine then_nrm ?_
              show Code.wp Try.prog _ _ _ _
              refine wp_seq ?_
              refine wp_region_list ?_
              refine W_val hA rfl 76 rfl (by decide) _ _ (R_row hA rfl rfl HH Try.underlying25 (size_hart.trans (by rw [varr_size]))) (fun a hA => ?_)
              refine W_cpH hA rfl rfl rfl rfl rfl RR (fun w30 hT HN => ?_)
              replace HB := HB.trans (hT.bel _ gRR)
              replace HH := hT.hart HH (by omega)
              replace RR := HN
              clear hT HN
              refine W_nil ?_
              refine then_nrm ?_
              show Code.wp Try.prog _ _ _ _
              refine wp_ret ?_
              refine ret_hart (j := 6) (by kernel_rfl) hA rfl RR ?_
              refine ⟨congrArg (fun s : HS => Ending.returned (hartV s)) ?_, HB⟩
              have e : m = 260 ∨ m = 1540 := by simpa using c6
              rcases e with e | e
              all_goals
                subst e
                rfl
            exact AllReadyH.nil
          exact AllReadyH.nil
        exact AllReadyH.nil
      exact AllReadyH.nil
    exact AllReadyH.nil
  refine wp_skip ?_
  refine then_nrm ?_
  show Code.wp Try.prog _ _ _ _
  refine W_test hA rfl (by decide) (by decide) rfl rfl (fun c7 a hA => ?_) (fun c7 a hA => ?_)
  · skip
    refine wp_exit ?_
    refine then_ext ?_
    refine blk_ne (by decide) ?_
    refine then_ext ?_
    refine blk_ne (by decide) ?_
    refine then_ext ?_
    refine blk_ne (by decide) ?_
    refine then_ext ?_
    refine blk_ne (by decide) ?_
    refine then_ext ?_
    refine blk_ne (by decide) ?_
    refine then_ext ?_
    refine blk_ne (by decide) ?_
    refine then_ext ?_
    refine blk_eq ?_
    refine then_nrm ?_
    show Code.wp Try.prog _ _ _ _
    refine wp_seq ?_
    refine wp_region_held_drew (S := fun wx => Below w.heap.size w wx) (by kernel_rfl) (HB.drew) (fun HB => ?_)
    replace HH := HH.below ((Below.refl _ _).drew)
    replace RR := RR.below ((Below.refl _ _).drew)
    generalize World.drew _ = w31 at *
    refine takeF (i := 0) hA 67 rfl rfl (by decide) rfl (by kernel_rfl) (by kernel_rfl) (by kernel_rfl) (fun _ _ _ h => h) HB (fun wx hx => R_fa hA rfl rfl (fun w => fa_hart _ 10 41 (by decide) rfl w) _) (fun a hA => ?_)
    refine takeF (i := 3) hA 70 rfl rfl (by decide) rfl (by kernel_rfl) (by kernel_rfl) (by kernel_rfl) (fun _ _ _ h => h) HB (fun wx hx => R_mov hA rfl rfl _) (fun a hA => ?_)
    refine takeF (i := 5) hA 72 rfl rfl (by decide) rfl (by kernel_rfl) (by kernel_rfl) (by kernel_rfl) (fun _ _ _ h => h) HB (fun wx hx => R_mov hA rfl rfl _) (fun a hA => ?_)
    refine takeF (i := 6) hA 73 rfl rfl (by decide) rfl (by kernel_rfl) (by kernel_rfl) (by kernel_rfl) (fun _ _ _ h => h) HB (fun wx hx => R_shl1 hA rfl rfl rfl _) (fun a hA => ?_)
    refine wpAnyH_ready (rs := [1, 2]) (by kernel_rfl) (by simp) ?_
    refine ready_val (i := 1) hA 68 rfl rfl (by decide) rfl HB (R_ld hA rfl rfl ag_u64 (HH.u 41 (by decide) (by decide))) (fun a hA => ?_) ?_
    · skip
      refine wpAnyH_ready (rs := [2]) (by kernel_rfl) (by simp) ?_
      refine ready_val (i := 2) hA 69 rfl rfl (by decide) rfl HB (R_row hA rfl rfl HH Try.underlying25 (size_hart.trans (by rw [varr_size]))) (fun a hA => ?_) ?_
      · skip
        refine wpAnyH_ready (rs := [4]) (by kernel_rfl) (by simp) ?_
        refine ready_call (i := 4) hA (by decide) rfl (fun _ _ => by kernel_rfl) (args2 hA rfl rfl) (part_any _ _ _) (fun _ h => HB.trans (h.mono HB.size)) (fun w32 hw a hA => ?_) ?_
        · skip
          replace HB := HB.trans (hw.mono HB.size)
          replace HH := HH.below hw
          replace RR := RR.below hw
          clear hw
          refine wpAnyH_ready (rs := [7]) (by kernel_rfl) (by simp) ?_
          refine ready_call (i := 7) hA (by decide) rfl (fun _ _ => by kernel_rfl) (args3 hA rfl rfl rfl) (merge_any _ _ _ _) (fun _ h => h ▸ HB) (fun w33 hw a hA => ?_) ?_
          · skip
            subst hw
            refine takeF (i := 8) hA 75 rfl rfl (by decide) rfl (by kernel_rfl) (by kernel_rfl) (by kernel_rfl) (fun _ _ _ h => h) HB (fun wx hx => R_fa hA rfl rfl (fun w => fa_hart _ 10 41 (by decide) rfl w) _) (fun a hA => ?_)
            refine wpAnyH_ready (rs := [9]) (by kernel_rfl) (by simp) ?_
            refine ready_stU (i := 9) hA rfl rfl rfl rfl rfl rfl HH (by decide) (by decide) (fun _ hT => HB.trans (hT.bel _ gHH)) (fun w34 hT HN => ?_) ?_
            · skip
              replace HB := HB.trans (hT.bel _ gHH)
              replace RR := hT.hart RR (by omega)
              replace HH := HN
              clear hT HN
              refine wpAnyH_done (by kernel_rfl) ?_ _
              refine then_nrm ?_
              show Code.wp Try.prog _ _ _ _
              refine wp_exit ?_
              refine blk_eq ?_
              refine then_nrm ?_
              show Code.wp Try.prog _ _ _ _
              refine wp_seq ?_
              refine wp_region_list ?_
              refine W_val hA rfl 76 rfl (by decide) _ _ (R_row hA rfl rfl HH Try.underlying25 (size_hart.trans (by rw [varr_size]))) (fun a hA => ?_)
              refine W_cpH hA rfl rfl rfl rfl rfl RR (fun w35 hT HN => ?_)
              replace HB := HB.trans (hT.bel _ gRR)
              replace HH := hT.hart HH (by omega)
              replace RR := HN
              clear hT HN
              refine W_nil ?_
              refine then_nrm ?_
              show Code.wp Try.prog _ _ _ _
              refine wp_ret ?_
              refine ret_hart (j := 6) (by kernel_rfl) hA rfl RR ?_
              refine ⟨congrArg (fun s : HS => Ending.returned (hartV s)) ?_, HB⟩
              have e := eq_of_beq c7
              subst e
              rfl
            exact AllReadyH.nil
          exact AllReadyH.nil
        exact AllReadyH.nil
      exact AllReadyH.nil
    refine ready_val (i := 2) hA 69 rfl rfl (by decide) rfl HB (R_row hA rfl rfl HH Try.underlying25 (size_hart.trans (by rw [varr_size]))) (fun a hA => ?_) ?_
    · skip
      refine wpAnyH_ready (rs := [1, 4]) (by kernel_rfl) (by simp) ?_
      refine ready_val (i := 1) hA 68 rfl rfl (by decide) rfl HB (R_ld hA rfl rfl ag_u64 (HH.u 41 (by decide) (by decide))) (fun a hA => ?_) ?_
      · skip
        refine wpAnyH_ready (rs := [4]) (by kernel_rfl) (by simp) ?_
        refine ready_call (i := 4) hA (by decide) rfl (fun _ _ => by kernel_rfl) (args2 hA rfl rfl) (part_any _ _ _) (fun _ h => HB.trans (h.mono HB.size)) (fun w36 hw a hA => ?_) ?_
        · skip
          replace HB := HB.trans (hw.mono HB.size)
          replace HH := HH.below hw
          replace RR := RR.below hw
          clear hw
          refine wpAnyH_ready (rs := [7]) (by kernel_rfl) (by simp) ?_
          refine ready_call (i := 7) hA (by decide) rfl (fun _ _ => by kernel_rfl) (args3 hA rfl rfl rfl) (merge_any _ _ _ _) (fun _ h => h ▸ HB) (fun w37 hw a hA => ?_) ?_
          · skip
            subst hw
            refine takeF (i := 8) hA 75 rfl rfl (by decide) rfl (by kernel_rfl) (by kernel_rfl) (by kernel_rfl) (fun _ _ _ h => h) HB (fun wx hx => R_fa hA rfl rfl (fun w => fa_hart _ 10 41 (by decide) rfl w) _) (fun a hA => ?_)
            refine wpAnyH_ready (rs := [9]) (by kernel_rfl) (by simp) ?_
            refine ready_stU (i := 9) hA rfl rfl rfl rfl rfl rfl HH (by decide) (by decide) (fun _ hT => HB.trans (hT.bel _ gHH)) (fun w38 hT HN => ?_) ?_
            · skip
              replace HB := HB.trans (hT.bel _ gHH)
              replace RR := hT.hart RR (by omega)
              replace HH := HN
              clear hT HN
              refine wpAnyH_done (by kernel_rfl) ?_ _
              refine then_nrm ?_
              show Code.wp Try.prog _ _ _ _
              refine wp_exit ?_
              refine blk_eq ?_
              refine then_nrm ?_
              show Code.wp Try.prog _ _ _ _
              refine wp_seq ?_
              refine wp_region_list ?_
              refine W_val hA rfl 76 rfl (by decide) _ _ (R_row hA rfl rfl HH Try.underlying25 (size_hart.trans (by rw [varr_size]))) (fun a hA => ?_)
              refine W_cpH hA rfl rfl rfl rfl rfl RR (fun w39 hT HN => ?_)
              replace HB := HB.trans (hT.bel _ gRR)
              replace HH := hT.hart HH (by omega)
              replace RR := HN
              clear hT HN
              refine W_nil ?_
              refine then_nrm ?_
              show Code.wp Try.prog _ _ _ _
              refine wp_ret ?_
              refine ret_hart (j := 6) (by kernel_rfl) hA rfl RR ?_
              refine ⟨congrArg (fun s : HS => Ending.returned (hartV s)) ?_, HB⟩
              have e := eq_of_beq c7
              subst e
              rfl
            exact AllReadyH.nil
          exact AllReadyH.nil
        exact AllReadyH.nil
      refine ready_call (i := 4) hA (by decide) rfl (fun _ _ => by kernel_rfl) (args2 hA rfl rfl) (part_any _ _ _) (fun _ h => HB.trans (h.mono HB.size)) (fun w40 hw a hA => ?_) ?_
      · skip
        replace HB := HB.trans (hw.mono HB.size)
        replace HH := HH.below hw
        replace RR := RR.below hw
        clear hw
        refine wpAnyH_ready (rs := [1]) (by kernel_rfl) (by simp) ?_
        refine ready_val (i := 1) hA 68 rfl rfl (by decide) rfl HB (R_ld hA rfl rfl ag_u64 (HH.u 41 (by decide) (by decide))) (fun a hA => ?_) ?_
        · skip
          refine wpAnyH_ready (rs := [7]) (by kernel_rfl) (by simp) ?_
          refine ready_call (i := 7) hA (by decide) rfl (fun _ _ => by kernel_rfl) (args3 hA rfl rfl rfl) (merge_any _ _ _ _) (fun _ h => h ▸ HB) (fun w41 hw a hA => ?_) ?_
          · skip
            subst hw
            refine takeF (i := 8) hA 75 rfl rfl (by decide) rfl (by kernel_rfl) (by kernel_rfl) (by kernel_rfl) (fun _ _ _ h => h) HB (fun wx hx => R_fa hA rfl rfl (fun w => fa_hart _ 10 41 (by decide) rfl w) _) (fun a hA => ?_)
            refine wpAnyH_ready (rs := [9]) (by kernel_rfl) (by simp) ?_
            refine ready_stU (i := 9) hA rfl rfl rfl rfl rfl rfl HH (by decide) (by decide) (fun _ hT => HB.trans (hT.bel _ gHH)) (fun w42 hT HN => ?_) ?_
            · skip
              replace HB := HB.trans (hT.bel _ gHH)
              replace RR := hT.hart RR (by omega)
              replace HH := HN
              clear hT HN
              refine wpAnyH_done (by kernel_rfl) ?_ _
              refine then_nrm ?_
              show Code.wp Try.prog _ _ _ _
              refine wp_exit ?_
              refine blk_eq ?_
              refine then_nrm ?_
              show Code.wp Try.prog _ _ _ _
              refine wp_seq ?_
              refine wp_region_list ?_
              refine W_val hA rfl 76 rfl (by decide) _ _ (R_row hA rfl rfl HH Try.underlying25 (size_hart.trans (by rw [varr_size]))) (fun a hA => ?_)
              refine W_cpH hA rfl rfl rfl rfl rfl RR (fun w43 hT HN => ?_)
              replace HB := HB.trans (hT.bel _ gRR)
              replace HH := hT.hart HH (by omega)
              replace RR := HN
              clear hT HN
              refine W_nil ?_
              refine then_nrm ?_
              show Code.wp Try.prog _ _ _ _
              refine wp_ret ?_
              refine ret_hart (j := 6) (by kernel_rfl) hA rfl RR ?_
              refine ⟨congrArg (fun s : HS => Ending.returned (hartV s)) ?_, HB⟩
              have e := eq_of_beq c7
              subst e
              rfl
            exact AllReadyH.nil
          exact AllReadyH.nil
        exact AllReadyH.nil
      exact AllReadyH.nil
    exact AllReadyH.nil
  refine wp_skip ?_
  refine then_nrm ?_
  show Code.wp Try.prog _ _ _ _
  refine wp_exit ?_
  refine blk_ne (by decide) ?_
  refine then_ext ?_
  refine blk_ne (by decide) ?_
  refine then_ext ?_
  refine blk_ne (by decide) ?_
  refine then_ext ?_
  refine blk_ne (by decide) ?_
  refine then_ext ?_
  refine blk_ne (by decide) ?_
  refine then_ext ?_
  refine blk_ne (by decide) ?_
  refine then_ext ?_
  refine blk_ne (by decide) ?_
  refine then_ext ?_
  refine blk_eq ?_
  refine then_nrm ?_
  show Code.wp Try.prog _ _ _ _
  refine wp_seq ?_
  refine wp_region_list ?_
  refine W_val hA rfl 76 rfl (by decide) _ _ (R_row hA rfl rfl HH Try.underlying25 (size_hart.trans (by rw [varr_size]))) (fun a hA => ?_)
  refine W_cpH hA rfl rfl rfl rfl rfl RR (fun w44 hT HN => ?_)
  replace HB := HB.trans (hT.bel _ gRR)
  replace HH := hT.hart HH (by omega)
  replace RR := HN
  clear hT HN
  refine W_nil ?_
  refine then_nrm ?_
  show Code.wp Try.prog _ _ _ _
  refine wp_ret ?_
  refine ret_hart (j := 6) (by kernel_rfl) hA rfl RR ?_
  refine ⟨congrArg (fun s : HS => Ending.returned (hartV s)) ?_, HB⟩
  have dc1 : ¬ m = 256 := beq_eq_false_iff_ne.1 c1
  have dc2 : ¬ m = 836 := beq_eq_false_iff_ne.1 c2
  have dc3 : ¬ m = 1604 := beq_eq_false_iff_ne.1 c3
  have dc4 : ¬ m = 324 := beq_eq_false_iff_ne.1 c4
  have dc5 : ¬ m = 580 := beq_eq_false_iff_ne.1 c5
  have dc6 : ¬ m = 260 ∧ ¬ m = 1540 := by simpa using c6
  have dc7 : ¬ m = 516 := beq_eq_false_iff_ne.1 c7
  unfold viewW
  rw [if_neg dc1, if_neg dc2, if_neg dc3, if_neg dc4, if_neg dc5, if_neg dc6.1, if_neg dc6.2, if_neg dc7]
theorem put_no {m : Int} (hk : ixF m < 38) (hno : noF (ixF m) = m) {b : Nat} {t : HS} {v : Int} {w : World} (HH : HartB w b t) (hv0 : 0 ≤ v) : Calls Try.prog 32 #[.pointer (some ⟨b, clF (ixF m), none⟩), .int .i64 m, .int .u64 v] w fun e w' => e = .returned (.tuple #[]) ∧ (HartB w' b (t.put (clF (ixF m)) (putZ (ixF m) (t.n (clF (ixF m))) v)) ∧ Tch b w w') := by
  have := put_any (ixF m) hk w HH hv0
  rw [hno] at this
  exact this
set_option maxHeartbeats 8000000 in
theorem write_any (t : HS) (l : LS) (no v : Int) (hv0 : 0 ≤ v) (w : World) : Calls Try.prog 18 #[hartV t, linesV l, .int .i64 no, .int .u64 v] w fun e w' => e = .returned (hartV (writeZ t no v)) ∧ Below w.heap.size w w' := by
  have HB := Below.refl w.heap.size w
  go_enter Try.func18, Try.ntmps18
  refine begin_fr [(3, .int .u64 v), (2, .int .i64 no), (1, linesV l), (0, hartV t)] 26 ?_ (fun a hA => ?_)
  · exact FrA.add (FrA.add (FrA.add (FrA.add (FrA.nil (by rfl) (by rfl)) 0 _ (by rfl)) 1 _ (by rfl)) 2 _ (by rfl)) 3 _ (by rfl)
  refine wp_seq ?_
  refine wp_region_list ?_
  refine W_boxH hA rfl 4 rfl (by decide) rfl rfl (fun w1 bHH a hA hb HH gHH => ?_)
  replace gHH := Nat.le_trans HB.size gHH
  replace HB := HB.trans (hb.mono HB.size)
  clear hb
  refine W_boxL hA rfl 5 rfl (by decide) rfl rfl (fun w2 bLL a hA hb LL gLL => ?_)
  have nHHLL : bHH < bLL := by have := HH.lt; omega
  replace HH := HH.below hb
  replace gLL := Nat.le_trans HB.size gLL
  replace HB := HB.trans (hb.mono HB.size)
  clear hb
  refine W_allocH hA rfl 8 rfl (by decide) rfl (fun w3 bRR a hA hb RR gRR => ?_)
  have nHHRR : bHH < bRR := by have := HH.lt; omega
  replace HH := HH.below hb
  have nLLRR : bLL < bRR := by have := LL.lt; omega
  replace LL := LL.below hb
  replace gRR := Nat.le_trans HB.size gRR
  replace HB := HB.trans (hb.mono HB.size)
  clear hb
  refine W_nil ?_
  refine then_nrm ?_
  show Code.wp Try.prog _ _ _ _
  refine wp_seq ?_
  refine wp_region_list ?_
  refine W_val hA rfl 10 rfl (by decide) _ _ (R_row hA rfl rfl HH Try.underlying25 (size_hart.trans (by rw [varr_size]))) (fun a hA => ?_)
  refine W_val hA rfl 11 rfl (by decide) _ _ (R_mov hA rfl rfl _) (fun a hA => ?_)
  refine W_call2 hA (by decide) (fun _ _ => by kernel_rfl) rfl rfl (meant_any _ _ _) (fun w4 hw a hA => ?_)
  replace HB := HB.trans (hw.mono HB.size)
  replace HH := HH.below hw
  replace LL := LL.below hw
  replace RR := RR.below hw
  clear hw
  refine W_val hA rfl 2 rfl (by decide) _ _ (R_asg hA rfl rfl _) (fun a hA => ?_)
  refine W_nil ?_
  refine then_nrm ?_
  show Code.wp Try.prog _ _ _ _
  refine wp_seq ?_
  refine wp_seq ?_
  refine wp_region_list ?_
  refine W_val hA rfl 13 rfl (by decide) _ _ (R_mov hA rfl rfl _) (fun a hA => ?_)
  refine W_call2 hA (by decide) (fun _ _ => by kernel_rfl) rfl rfl (field_any _ _ _) (fun w5 hw a hA => ?_)
  replace HB := HB.trans (hw.mono HB.size)
  replace HH := HH.below hw
  replace LL := LL.below hw
  replace RR := RR.below hw
  clear hw
  refine W_val hA rfl 9 rfl (by decide) _ _ (R_asg hA rfl rfl _) (fun a hA => ?_)
  refine W_nil ?_
  refine then_nrm ?_
  show Code.wp Try.prog _ _ _ _
  refine wp_seq ?_
  refine wp_region_list ?_
  refine W_val hA rfl 15 rfl (by decide) _ _ (R_mov hA rfl rfl _) (fun a hA => ?_)
  refine W_val hA rfl 16 rfl (by decide) _ _ (R_neqP hA rfl rfl rfl _) (fun a hA => ?_)
  refine W_nil ?_
  refine then_nrm ?_
  show Code.wp Try.prog _ _ _ _
  refine wp_cond_split (hA.ev (x := .tmp 16) rfl) (fun c1 => ?_) (fun c1 => ?_)
  · skip
    obtain ⟨hk, hat⟩ := at_some c1
    rw [hat] at hA
    have hno : noF (ixF (meantZ t.v no)) = meantZ t.v no := by
      rcases ixF_cases (meantZ t.v no) with ⟨_, q⟩ | ⟨q, _⟩
      · exact q
      · omega
    refine wp_seq ?_
    refine wp_region_list ?_
    refine W_val hA rfl 17 rfl (by decide) _ _ (R_mov hA rfl rfl _) (fun a hA => ?_)
    refine W_val hA rfl 18 rfl (by decide) _ _ (R_mov hA rfl rfl _) (fun a hA => ?_)
    refine W_val hA rfl 19 rfl (by decide) _ _ (R_mov hA rfl rfl _) (fun a hA => ?_)
    refine W_call3 hA (by decide) (fun _ _ => by kernel_rfl) rfl rfl rfl (put_no hk hno HH hv0) (fun w6 hw a hA => ?_)
    obtain ⟨HN, hT⟩ := hw
    replace HB := HB.trans (hT.bel _ gHH)
    replace LL := hT.lines LL (by omega)
    replace RR := hT.hart RR (by omega)
    replace HH := HN
    clear hT HN
    refine W_nil ?_
    refine then_nrm ?_
    show Code.wp Try.prog _ _ _ _
    refine wp_seq ?_
    refine wp_region_list ?_
    refine W_val hA rfl 21 rfl (by decide) _ _ (R_row hA rfl rfl HH Try.underlying25 (size_hart.trans (by rw [varr_size]))) (fun a hA => ?_)
    refine W_cpH hA rfl rfl rfl rfl rfl RR (fun w7 hT HN => ?_)
    replace HB := HB.trans (hT.bel _ gRR)
    replace HH := hT.hart HH (by omega)
    replace LL := hT.lines LL (by omega)
    replace RR := HN
    clear hT HN
    refine W_nil ?_
    refine then_nrm ?_
    show Code.wp Try.prog _ _ _ _
    refine wp_ret ?_
    refine then_ret ?_
    refine ret_hart (j := 8) (by kernel_rfl) hA rfl RR ?_
    refine ⟨congrArg (fun s : HS => Ending.returned (hartV s)) ?_, HB⟩
    unfold writeZ writeM
    rw [if_pos hk]
  have hk := at_none c1
  refine wp_skip ?_
  refine then_nrm ?_
  show Code.wp Try.prog _ _ _ _
  refine wp_seq ?_
  refine wp_region_list ?_
  refine W_val hA rfl 22 rfl (by decide) _ _ (R_row hA rfl rfl HH Try.underlying25 (size_hart.trans (by rw [varr_size]))) (fun a hA => ?_)
  refine W_val hA rfl 23 rfl (by decide) _ _ (R_mov hA rfl rfl _) (fun a hA => ?_)
  refine W_val hA rfl 24 rfl (by decide) _ _ (R_mov hA rfl rfl _) (fun a hA => ?_)
  refine W_call3 hA (by decide) (fun _ _ => by kernel_rfl) rfl rfl rfl (writeView_any _ _ _ _) (fun w8 hw a hA => ?_)
  replace HB := HB.trans (hw.mono HB.size)
  replace HH := HH.below hw
  replace LL := LL.below hw
  replace RR := RR.below hw
  clear hw
  refine W_cpH hA rfl rfl rfl rfl rfl RR (fun w9 hT HN => ?_)
  replace HB := HB.trans (hT.bel _ gRR)
  replace HH := hT.hart HH (by omega)
  replace LL := hT.lines LL (by omega)
  replace RR := HN
  clear hT HN
  refine W_nil ?_
  refine then_nrm ?_
  show Code.wp Try.prog _ _ _ _
  refine wp_ret ?_
  refine ret_hart (j := 8) (by kernel_rfl) hA rfl RR ?_
  refine ⟨congrArg (fun s : HS => Ending.returned (hartV s)) ?_, HB⟩
  unfold writeZ writeM
  rw [if_neg hk]
set_option maxHeartbeats 8000000 in
theorem base_any (t : HS) (ok : HOk t) (l : LS) (no : Int) (w : World) : Calls Try.prog 15 #[hartV t, linesV l, .int .i64 no] w fun e w' => e = .returned (.int .u64 (baseZ t l no)) ∧ Below w.heap.size w w' := by
  have HB := Below.refl w.heap.size w
  go_enter Try.func15, Try.ntmps15
  refine begin_fr [(2, .int .i64 no), (1, linesV l), (0, hartV t)] 14 ?_ (fun a hA => ?_)
  · exact FrA.add (FrA.add (FrA.add (FrA.nil (by rfl) (by rfl)) 0 _ (by rfl)) 1 _ (by rfl)) 2 _ (by rfl)
  refine wp_seq ?_
  refine wp_region_list ?_
  refine W_boxH hA rfl 3 rfl (by decide) rfl rfl (fun w1 bHH a hA hb HH gHH => ?_)
  replace gHH := Nat.le_trans HB.size gHH
  replace HB := HB.trans (hb.mono HB.size)
  clear hb
  refine W_boxL hA rfl 4 rfl (by decide) rfl rfl (fun w2 bLL a hA hb LL gLL => ?_)
  have nHHLL : bHH < bLL := by have := HH.lt; omega
  replace HH := HH.below hb
  replace gLL := Nat.le_trans HB.size gLL
  replace HB := HB.trans (hb.mono HB.size)
  clear hb
  refine W_val hA rfl 6 rfl (by decide) _ _ (R_asg hA rfl rfl _) (fun a hA => ?_)
  refine W_nil ?_
  refine then_nrm ?_
  show Code.wp Try.prog _ _ _ _
  refine wp_seq ?_
  refine wp_seq ?_
  refine wp_region_list ?_
  refine W_val hA rfl 7 rfl (by decide) _ _ (R_mov hA rfl rfl _) (fun a hA => ?_)
  refine W_val hA rfl 8 rfl (by decide) _ _ (R_eqlI hA rfl rfl rfl _) (fun a hA => ?_)
  refine W_nil ?_
  refine then_nrm ?_
  show Code.wp Try.prog _ _ _ _
  refine wp_cond_split (hA.ev (x := .tmp 8) rfl) (fun c1 => ?_) (fun c1 => ?_)
  · skip
    refine wp_region_list ?_
    refine W_val hA rfl 9 rfl (by decide) _ _ (R_fa hA rfl rfl (fun w => fa_lines _ 3 (by decide) w) _) (fun a hA => ?_)
    refine W_stL3 hA rfl rfl rfl rfl rfl LL (fun w3 hT HN => ?_)
    replace HB := HB.trans (hT.bel _ gLL)
    replace HH := hT.hart HH (by omega)
    replace LL := HN
    clear hT HN
    refine W_nil ?_
    refine then_nrm ?_
    show Code.wp Try.prog _ _ _ _
    refine wp_seq ?_
    refine wp_region_list ?_
    refine W_val hA rfl 10 rfl (by decide) _ _ (R_row hA rfl rfl HH Try.underlying25 (size_hart.trans (by rw [varr_size]))) (fun a hA => ?_)
    refine W_val hA rfl 11 rfl (by decide) _ _ (R_row hA rfl rfl LL Try.underlying27 (by kernel_rfl)) (fun a hA => ?_)
    refine W_val hA rfl 12 rfl (by decide) _ _ (R_mov hA rfl rfl _) (fun a hA => ?_)
    refine W_call3 hA (by decide) (fun _ _ => by kernel_rfl) rfl rfl rfl (read_any _ ok _ _ _) (fun w4 hw a hA => ?_)
    replace HB := HB.trans (hw.mono HB.size)
    replace HH := HH.below hw
    replace LL := LL.below hw
    clear hw
    refine W_val hA rfl 6 rfl (by decide) _ _ (R_asg hA rfl rfl _) (fun a hA => ?_)
    refine W_nil ?_
    refine then_nrm ?_
    show Code.wp Try.prog _ _ _ _
    refine wp_ret ?_
    refine ret_tmp (j := 6) (by kernel_rfl) hA (by decide) rfl ?_
    refine ⟨congrArg (fun x : Int => Ending.returned (.int .u64 x)) ?_, HB⟩
    unfold baseZ
    rw [if_pos (eq_of_beq c1)]
  refine wp_skip ?_
  refine then_nrm ?_
  show Code.wp Try.prog _ _ _ _
  refine wp_seq ?_
  refine wp_region_list ?_
  refine W_val hA rfl 10 rfl (by decide) _ _ (R_row hA rfl rfl HH Try.underlying25 (size_hart.trans (by rw [varr_size]))) (fun a hA => ?_)
  refine W_val hA rfl 11 rfl (by decide) _ _ (R_row hA rfl rfl LL Try.underlying27 (by kernel_rfl)) (fun a hA => ?_)
  refine W_val hA rfl 12 rfl (by decide) _ _ (R_mov hA rfl rfl _) (fun a hA => ?_)
  refine W_call3 hA (by decide) (fun _ _ => by kernel_rfl) rfl rfl rfl (read_any _ ok _ _ _) (fun w5 hw a hA => ?_)
  replace HB := HB.trans (hw.mono HB.size)
  replace HH := HH.below hw
  replace LL := LL.below hw
  clear hw
  refine W_val hA rfl 6 rfl (by decide) _ _ (R_asg hA rfl rfl _) (fun a hA => ?_)
  refine W_nil ?_
  refine then_nrm ?_
  show Code.wp Try.prog _ _ _ _
  refine wp_ret ?_
  refine ret_tmp (j := 6) (by kernel_rfl) hA (by decide) rfl ?_
  refine ⟨congrArg (fun x : Int => Ending.returned (.int .u64 x)) ?_, HB⟩
  unfold baseZ
  rw [if_neg (beq_eq_false_iff_ne.1 c1)]
end Go.Proofs.Ytiblfdgmleckiaa
