/- Layer 13: the walk of IrqGuests (written by gen_iqh.py by walkf.py). -/
import Derived.Test.YthgjgloedlkaiaaDoorIqH
namespace Go.Proofs.YthgjgloedlkaiaaDoor
open Go.RowKit
set_option linter.unusedVariables false
set_option maxRecDepth 100000

theorem guest_bit {t : HS} {l : LS} {n : Nat} (hn : nextZ t l = some n) (hm : (bits .andNot .u64 (asksZ t l) (t.n 40) != 0) = true) (hp : (t.n 33 != 3) = true) : bitZ (bits .andNot .u64 (asksZ t l) (t.n 40)) n = true := by
  have hb : ∀ m, m < 64 → bitZ (bits .andNot .u64 (asksZ t l) (t.n 40)) m = (bitZ (asksZ t l) m && !bitZ (t.n 40) m) := fun m hm => by
    unfold bitZ
    rw [bits_andNot, V_U, BitVec.getLsbD_and, BitVec.getLsbD_not, decide_eq_true hm, Bool.true_and]
  obtain ⟨m, hm64, hmb⟩ : ∃ m, m < 64 ∧ bitZ (bits .andNot .u64 (asksZ t l) (t.n 40)) m = true := by
    by_cases c : ∃ m, m < 64 ∧ bitZ (bits .andNot .u64 (asksZ t l) (t.n 40)) m = true
    · exact c
    · exfalso
      have e : bits .andNot .u64 (asksZ t l) (t.n 40) = 0 := U_ext (andNot_in _ _) ⟨by decide, by decide⟩ fun i hi => by
        have h1 : bitZ (bits .andNot .u64 (asksZ t l) (t.n 40)) i = false := by
          cases q : bitZ (bits .andNot .u64 (asksZ t l) (t.n 40)) i
          · rfl
          · exact absurd ⟨i, hi, q⟩ c
        have h2 : (V (bits .andNot .u64 (asksZ t l) (t.n 40))).getLsbD i = false := h1
        rw [h2, V_zero]; simp
      rw [e] at hm; exact absurd hm (by decide)
  have h64 := (nextZ_some hn).1
  rw [hb m hm64, Bool.and_eq_true] at hmb
  have h3 := next_first hn (by simpa using hp) hm64 hmb.1 (by simpa using hmb.2)
  rw [hb n h64, (nextZ_some hn).2.1, h3]; rfl
set_option maxHeartbeats 8000000 in
theorem irqGuests_none (t : HS) (l : LS) (w : World) (ok : HOk t) (lk : LOk l) (hTab : Tab w) (hn : nextZ t l = none) : Calls Tryd.prog 5 #[hartV t, linesV l] w fun e w' => e = .returned (.bool true) ∧ Below w.heap.size w w' := by
  have HB := Below.refl w.heap.size w
  go_enter Tryd.func5, Tryd.ntmps5
  refine begin_fr [(1, linesV l), (0, hartV t)] 65 ?_ (fun a hA => ?_)
  · exact FrA.add (FrA.add (FrA.nil (by rfl) (by rfl)) 0 _ (by rfl)) 1 _ (by rfl)
  refine wp_seq ?_
  refine wp_region_list ?_
  refine W_boxH hA rfl 2 rfl (by decide) rfl rfl (fun w1 bHH a hA hb HH gHH => ?_)
  replace gHH := Nat.le_trans HB.size gHH
  replace HB := HB.trans (hb.mono HB.size)
  clear hb
  refine W_boxL hA rfl 3 rfl (by decide) rfl rfl (fun w2 bLL a hA hb LL gLL => ?_)
  have nHHLL : bHH < bLL := by have := HH.lt; omega
  replace HH := HH.below hb
  replace gLL := Nat.le_trans HB.size gLL
  replace HB := HB.trans (hb.mono HB.size)
  clear hb
  refine W_val hA rfl 4 rfl (by decide) _ _ (R_asg hA rfl rfl _) (fun a hA => ?_)
  refine W_nil ?_
  refine then_nrm ?_
  show Code.wp Tryd.prog _ _ _ _
  refine wp_seq ?_
  refine wp_region_list ?_
  refine W_val hA rfl 8 rfl (by decide) _ _ (R_row hA rfl rfl HH Tryd.underlying25 (size_hart.trans (by rw [varr_size]))) (fun a hA => ?_)
  refine W_val hA rfl 9 rfl (by decide) _ _ (R_row hA rfl rfl LL Tryd.underlying27 (by kernel_rfl)) (fun a hA => ?_)
  refine W_callA hA (by decide) (fun _ _ => by kernel_rfl) (args2 hA rfl rfl) (next_of_none ok hn _ (by first | exact (hTab.below HB).below hS | exact hTab.below HB)) (fun w3 hw a hA => ?_)
  replace HB := HB.trans (hw.mono HB.size)
  replace HH := HH.below hw
  replace LL := LL.below hw
  clear hw
  refine W_allocTr hA rfl 5 rfl (by decide) rfl (fun w4 bT5 a hA hb T5 gT5 => ?_)
  have nHHT5 : bHH < bT5 := by have := HH.lt; omega
  replace HH := HH.below hb
  have nLLT5 : bLL < bT5 := by have := LL.lt; omega
  replace LL := LL.below hb
  replace gT5 := Nat.le_trans HB.size gT5
  replace HB := HB.trans (hb.mono HB.size)
  clear hb
  refine W_cpTr hA rfl rfl rfl rfl rfl T5 (fun w5 hT HN => ?_)
  replace HB := HB.trans (hT.bel _ gT5)
  replace HH := hT.hart HH (by omega)
  replace LL := hT.lines LL (by omega)
  replace T5 := HN
  clear hT HN
  refine W_nil ?_
  refine then_nrm ?_
  show Code.wp Tryd.prog _ _ _ _
  refine wp_seq ?_
  refine wp_seq ?_
  refine wp_region_list ?_
  refine W_val hA rfl 11 rfl (by decide) _ _ (R_fa hA rfl rfl (fun w => fa_tr0 _ w) _) (fun a hA => ?_)
  refine W_val hA rfl 12 rfl (by decide) _ _ (R_ld hA rfl rfl ag_bool (TrB.c0 T5)) (fun a hA => ?_)
  refine W_val hA rfl 13 rfl (by decide) _ _ (R_not hA rfl rfl _) (fun a hA => ?_)
  refine W_nil ?_
  refine then_nrm ?_
  show Code.wp Tryd.prog _ _ _ _
  refine wp_cond_true (hA.ev (x := .tmp 13) rfl) ?_
  refine wp_seq ?_
  refine wp_region_list ?_
  refine W_callA hA (by decide) (fun _ _ => by kernel_rfl) (args0 ) (wakes_any _ (by first | exact (hTab.below HB).below hS | exact hTab.below HB)) (fun w6 hw a hA => ?_)
  replace HB := HB.trans (hw.mono HB.size)
  replace HH := HH.below hw
  replace LL := LL.below hw
  replace T5 := T5.below hw
  clear hw
  refine W_val hA rfl 4 rfl (by decide) _ _ (R_asg hA rfl rfl _) (fun a hA => ?_)
  refine W_nil ?_
  refine then_nrm ?_
  show Code.wp Tryd.prog _ _ _ _
  refine wp_ret ?_
  refine then_ret ?_
  exact ret_tmp (j := 4) (by kernel_rfl) hA (by decide) rfl ⟨rfl, HB⟩
set_option maxHeartbeats 8000000 in
theorem irqGuests_some (t : HS) (l : LS) (w : World) (ok : HOk t) (lk : LOk l) (hTab : Tab w) {n : Nat} (hn : nextZ t l = some n) : Calls Tryd.prog 5 #[hartV t, linesV l] w fun e w' => e = .returned (.bool true) ∧ Below w.heap.size w w' := by
  have hn64 : n < 64 := (nextZ_some hn).1
  have ha := (nextZ_some hn).2.1
  have HB := Below.refl w.heap.size w
  go_enter Tryd.func5, Tryd.ntmps5
  refine begin_fr [(1, linesV l), (0, hartV t)] 65 ?_ (fun a hA => ?_)
  · exact FrA.add (FrA.add (FrA.nil (by rfl) (by rfl)) 0 _ (by rfl)) 1 _ (by rfl)
  refine wp_seq ?_
  refine wp_region_list ?_
  refine W_boxH hA rfl 2 rfl (by decide) rfl rfl (fun w1 bHH a hA hb HH gHH => ?_)
  replace gHH := Nat.le_trans HB.size gHH
  replace HB := HB.trans (hb.mono HB.size)
  clear hb
  refine W_boxL hA rfl 3 rfl (by decide) rfl rfl (fun w2 bLL a hA hb LL gLL => ?_)
  have nHHLL : bHH < bLL := by have := HH.lt; omega
  replace HH := HH.below hb
  replace gLL := Nat.le_trans HB.size gLL
  replace HB := HB.trans (hb.mono HB.size)
  clear hb
  refine W_val hA rfl 4 rfl (by decide) _ _ (R_asg hA rfl rfl _) (fun a hA => ?_)
  refine W_nil ?_
  refine then_nrm ?_
  show Code.wp Tryd.prog _ _ _ _
  refine wp_seq ?_
  refine wp_region_list ?_
  refine W_val hA rfl 8 rfl (by decide) _ _ (R_row hA rfl rfl HH Tryd.underlying25 (size_hart.trans (by rw [varr_size]))) (fun a hA => ?_)
  refine W_val hA rfl 9 rfl (by decide) _ _ (R_row hA rfl rfl LL Tryd.underlying27 (by kernel_rfl)) (fun a hA => ?_)
  refine W_callA hA (by decide) (fun _ _ => by kernel_rfl) (args2 hA rfl rfl) (next_of_some ok hn _ (by first | exact (hTab.below HB).below hS | exact hTab.below HB)) (fun w3 hw a hA => ?_)
  replace HB := HB.trans (hw.mono HB.size)
  replace HH := HH.below hw
  replace LL := LL.below hw
  clear hw
  refine W_allocTr hA rfl 5 rfl (by decide) rfl (fun w4 bT5 a hA hb T5 gT5 => ?_)
  have nHHT5 : bHH < bT5 := by have := HH.lt; omega
  replace HH := HH.below hb
  have nLLT5 : bLL < bT5 := by have := LL.lt; omega
  replace LL := LL.below hb
  replace gT5 := Nat.le_trans HB.size gT5
  replace HB := HB.trans (hb.mono HB.size)
  clear hb
  refine W_cpTr hA rfl rfl rfl rfl rfl T5 (fun w5 hT HN => ?_)
  replace HB := HB.trans (hT.bel _ gT5)
  replace HH := hT.hart HH (by omega)
  replace LL := hT.lines LL (by omega)
  replace T5 := HN
  clear hT HN
  refine W_nil ?_
  refine then_nrm ?_
  show Code.wp Tryd.prog _ _ _ _
  refine wp_seq ?_
  refine wp_seq ?_
  refine wp_region_list ?_
  refine W_val hA rfl 11 rfl (by decide) _ _ (R_fa hA rfl rfl (fun w => fa_tr0 _ w) _) (fun a hA => ?_)
  refine W_val hA rfl 12 rfl (by decide) _ _ (R_ld hA rfl rfl ag_bool (TrB.c0 T5)) (fun a hA => ?_)
  refine W_val hA rfl 13 rfl (by decide) _ _ (R_not hA rfl rfl _) (fun a hA => ?_)
  refine W_nil ?_
  refine then_nrm ?_
  show Code.wp Tryd.prog _ _ _ _
  refine wp_cond_false (hA.ev (x := .tmp 13) rfl) ?_
  refine wp_skip ?_
  refine then_nrm ?_
  show Code.wp Tryd.prog _ _ _ _
  refine wp_seq ?_
  refine wp_region_list ?_
  refine W_val hA rfl 15 rfl (by decide) _ _ (R_fa hA rfl rfl (fun w => fa_tr1 _ w) _) (fun a hA => ?_)
  refine W_val hA rfl 16 rfl (by decide) _ _ (R_ld hA rfl rfl ag_u64 (TrB.c1 T5)) (fun a hA => ?_)
  refine W_val hA rfl 17 rfl (by decide) _ _ (R_andN hA rfl rfl rfl (cause_num n hn64) _) (fun a hA => ?_)
  refine W_val hA rfl 6 rfl (by decide) _ _ (R_asg hA rfl rfl _) (fun a hA => ?_)
  refine W_nil ?_
  refine then_nrm ?_
  show Code.wp Tryd.prog _ _ _ _
  refine wp_seq ?_
  refine wp_seq ?_
  refine wp_region_list ?_
  refine W_val hA rfl 18 rfl (by decide) _ _ (R_mov hA rfl rfl _) (fun a hA => ?_)
  refine W_val hA rfl 19 rfl (by decide) _ _ (R_gtrN hA rfl rfl rfl false (by simp; omega) _) (fun a hA => ?_)
  refine W_nil ?_
  refine then_nrm ?_
  show Code.wp Tryd.prog _ _ _ _
  refine wp_cond_false (hA.ev (x := .tmp 19) rfl) ?_
  refine wp_skip ?_
  refine then_nrm ?_
  show Code.wp Tryd.prog _ _ _ _
  refine wp_seq ?_
  refine wp_region_held_drew (S := fun wx => Below w5.heap.size w5 wx) (by kernel_rfl) ((Below.refl _ _).drew) (fun hS => ?_)
  refine takeF (i := 0) hA 20 rfl rfl (by decide) rfl (by kernel_rfl) (by kernel_rfl) (by kernel_rfl) (fun _ _ _ h => h) hS (fun wx hx => R_row hA rfl rfl (HH.below hx) Tryd.underlying25 (size_hart.trans (by rw [varr_size]))) (fun a hA => ?_)
  refine takeF (i := 1) hA 21 rfl rfl (by decide) rfl (by kernel_rfl) (by kernel_rfl) (by kernel_rfl) (fun _ _ _ h => h) hS (fun wx hx => R_row hA rfl rfl (LL.below hx) Tryd.underlying27 (by kernel_rfl)) (fun a hA => ?_)
  refine takeF (i := 3) hA 23 rfl rfl (by decide) rfl (by kernel_rfl) (by kernel_rfl) (by kernel_rfl) (fun _ _ _ h => h) hS (fun wx hx => R_fa hA rfl rfl (fun w => fa_hart _ 9 40 (by decide) rfl w) _) (fun a hA => ?_)
  refine takeF (i := 4) hA 24 rfl rfl (by decide) rfl (by kernel_rfl) (by kernel_rfl) (by kernel_rfl) (fun _ _ _ h => h) hS (fun wx hx => R_ld hA rfl rfl ag_u64 ((HH.below hx).u 40 (by decide) (by decide))) (fun a hA => ?_)
  refine wpAnyH_ready (rs := [2]) (by kernel_rfl) (by simp) (ready_call (i := 2) hA (by decide) rfl (fun _ _ => by kernel_rfl) (args2 hA rfl rfl) (asks_any t ok l _) (fun _ h => hS.trans (h.mono hS.size)) (fun w6 hw a hA => ?_) AllReadyH.nil)
  replace hS := hS.trans (hw.mono hS.size)
  clear hw
  refine takeF (i := 5) hA 25 rfl rfl (by decide) rfl (by kernel_rfl) (by kernel_rfl) (by kernel_rfl) (fun _ _ _ h => h) hS (fun wx hx => R_andNot hA rfl rfl rfl _) (fun a hA => ?_)
  refine takeF (i := 6) hA 7 rfl rfl (by decide) rfl (by kernel_rfl) (by kernel_rfl) (by kernel_rfl) (fun _ _ _ h => h) hS (fun wx hx => R_asg hA rfl rfl _) (fun a hA => ?_)
  refine wpAnyH_done (by kernel_rfl) ?_ _
  replace HH := HH.below hS
  replace LL := LL.below hS
  replace T5 := T5.below hS
  replace HB := HB.trans (hS.mono HB.size)
  clear hS
  refine then_nrm ?_
  show Code.wp Tryd.prog _ _ _ _
  refine wp_seq ?_
  refine wp_seq ?_
  refine wp_region_list ?_
  refine W_val hA rfl 26 rfl (by decide) _ _ (R_mov hA rfl rfl _) (fun a hA => ?_)
  refine W_val hA rfl 27 rfl (by decide) _ _ (R_neqU hA rfl rfl rfl _) (fun a hA => ?_)
  refine W_val hA rfl 28 rfl (by decide) _ _ (R_mov hA rfl rfl _) (fun a hA => ?_)
  refine W_split hA 28 rfl (fun c1 hA => ?_) (fun c1 hA => ?_)
  · skip
    refine W_gval hA rfl rfl rfl 29 rfl (by decide) _ _ (R_fa hA rfl rfl (fun w => fa_hart _ 2 33 (by decide) rfl w) _) (fun a hA => ?_)
    refine W_gval hA rfl rfl rfl 30 rfl (by decide) _ _ (R_ld hA rfl rfl ag_u8 HH.p) (fun a hA => ?_)
    refine W_gval hA rfl rfl rfl 31 rfl (by decide) _ _ (R_neqB hA rfl rfl rfl _) (fun a hA => ?_)
    refine W_val hA rfl 32 rfl (by decide) _ _ (R_pick hA rfl rfl rfl _) (fun a hA => ?_)
    refine W_val hA rfl 33 rfl (by decide) _ _ (R_mov hA rfl rfl _) (fun a hA => ?_)
    refine W_split hA 33 rfl (fun c2 hA => ?_) (fun c2 hA => ?_)
    · skip
      refine W_gval hA rfl rfl rfl 34 rfl (by decide) _ _ (R_mov hA rfl rfl _) (fun a hA => ?_)
      refine W_gval hA rfl rfl rfl 35 rfl (by decide) _ _ (R_mov hA rfl rfl _) (fun a hA => ?_)
      refine W_gval hA rfl rfl rfl 36 rfl (by decide) _ _ (R_shrX hA rfl rfl (andNot_in _ _).1 hn64 rfl _) (fun a hA => ?_)
      refine W_gval hA rfl rfl rfl 37 rfl (by decide) _ _ (R_and hA rfl rfl rfl _) (fun a hA => ?_)
      refine W_gval hA rfl rfl rfl 38 rfl (by decide) _ _ (R_eqlUT hA rfl rfl rfl false ((has_bit0 (andNot_in _ _) n).trans (by rw [guest_bit hn c1 c2]; rfl)) _) (fun a hA => ?_)
      refine W_val hA rfl 39 rfl (by decide) _ _ (R_pick hA rfl rfl rfl _) (fun a hA => ?_)
      refine W_nil ?_
      refine then_nrm ?_
      show Code.wp Tryd.prog _ _ _ _
      refine wp_cond_false (hA.ev (x := .tmp 39) rfl) ?_
      refine wp_skip ?_
      refine then_nrm ?_
      show Code.wp Tryd.prog _ _ _ _
      refine wp_seq ?_
      refine wp_seq ?_
      refine wp_region_list ?_
      refine W_val hA rfl 40 rfl (by decide) _ _ (R_fa hA rfl rfl (fun w => fa_hart _ 9 40 (by decide) rfl w) _) (fun a hA => ?_)
      refine W_val hA rfl 41 rfl (by decide) _ _ (R_ld hA rfl rfl ag_u64 (HH.u 40 (by decide) (by decide))) (fun a hA => ?_)
      refine W_val hA rfl 42 rfl (by decide) _ _ (R_mov hA rfl rfl _) (fun a hA => ?_)
      refine W_val hA rfl 43 rfl (by decide) _ _ (R_shrX hA rfl rfl (ok.n _).1 hn64 rfl _) (fun a hA => ?_)
      refine W_val hA rfl 44 rfl (by decide) _ _ (R_and hA rfl rfl rfl _) (fun a hA => ?_)
      refine W_val hA rfl 45 rfl (by decide) _ _ (R_eqlU hA rfl rfl rfl _) (fun a hA => ?_)
      refine W_val hA rfl 46 rfl (by decide) _ _ (R_mov hA rfl rfl _) (fun a hA => ?_)
      refine W_split hA 46 rfl (fun c3 hA => ?_) (fun c3 hA => ?_)
      · skip
        refine W_gval hA rfl rfl rfl 47 rfl (by decide) _ _ (R_fa hA rfl rfl (fun w => fa_hart _ 29 60 (by decide) rfl w) _) (fun a hA => ?_)
        refine W_gval hA rfl rfl rfl 48 rfl (by decide) _ _ (R_ld hA rfl rfl ag_u64 (HH.u 60 (by decide) (by decide))) (fun a hA => ?_)
        refine W_gval hA rfl rfl rfl 49 rfl (by decide) _ _ (R_mov hA rfl rfl _) (fun a hA => ?_)
        refine W_gval hA rfl rfl rfl 50 rfl (by decide) _ _ (R_shrX hA rfl rfl (ok.n _).1 hn64 rfl _) (fun a hA => ?_)
        refine W_gval hA rfl rfl rfl 51 rfl (by decide) _ _ (R_and hA rfl rfl rfl _) (fun a hA => ?_)
        refine W_gval hA rfl rfl rfl 52 rfl (by decide) _ _ (R_eqlU hA rfl rfl rfl _) (fun a hA => ?_)
        refine W_val hA rfl 53 rfl (by decide) _ _ (R_pick hA rfl rfl rfl _) (fun a hA => ?_)
        refine W_nil ?_
        refine then_nrm ?_
        show Code.wp Tryd.prog _ _ _ _
        refine wp_cond_split (hA.ev (x := .tmp 53) rfl) (fun c4 => ?_) (fun c4 => ?_)
        · skip
          have ev := next_guest hn ((has_bit (ok.n 40) n).symm.trans c3) ((has_bit (ok.n 60) n).symm.trans c4)
          refine wp_seq ?_
          refine wp_region_list ?_
          refine W_val hA rfl 54 rfl (by decide) _ _ (R_fa hA rfl rfl (fun w => fa_hart _ 3 34 (by decide) rfl w) _) (fun a hA => ?_)
          refine W_val hA rfl 55 rfl (by decide) _ _ (R_ld hA rfl rfl ag_bool (HH.v.trans (by rw [ev.1]))) (fun a hA => ?_)
          refine W_val hA rfl 56 rfl (by decide) _ _ (R_mov hA rfl rfl _) (fun a hA => ?_)
          refine W_gval hA rfl rfl rfl 57 rfl (by decide) _ _ (R_fa hA rfl rfl (fun w => fa_hart _ 2 33 (by decide) rfl w) _) (fun a hA => ?_)
          refine W_gval hA rfl rfl rfl 58 rfl (by decide) _ _ (R_ld hA rfl rfl ag_u8 HH.p) (fun a hA => ?_)
          refine W_gval hA rfl rfl rfl 59 rfl (by decide) _ _ (R_neqBN hA rfl rfl rfl true (by simpa using ev.2) _) (fun a hA => ?_)
          refine W_val hA rfl 60 rfl (by decide) _ _ (R_pick hA rfl rfl rfl _) (fun a hA => ?_)
          refine W_val hA rfl 61 rfl (by decide) _ _ (R_mov hA rfl rfl _) (fun a hA => ?_)
          refine W_gcallB hA rfl rfl (by decide) (fun _ _ => by kernel_rfl) (args0 ) (wakes_any _ (by first | exact (hTab.below HB).below hS | exact hTab.below HB)) (fun w7 hw a hA => ?_)
          replace HB := HB.trans (hw.mono HB.size)
          replace HH := HH.below hw
          replace LL := LL.below hw
          replace T5 := T5.below hw
          clear hw
          refine W_val hA rfl 63 rfl (by decide) _ _ (R_pick hA rfl rfl rfl _) (fun a hA => ?_)
          refine W_val hA rfl 4 rfl (by decide) _ _ (R_asg hA rfl rfl _) (fun a hA => ?_)
          refine W_nil ?_
          refine then_nrm ?_
          show Code.wp Tryd.prog _ _ _ _
          refine wp_ret ?_
          refine then_ret ?_
          exact ret_tmp (j := 4) (by kernel_rfl) hA (by decide) rfl ⟨rfl, HB⟩
        refine wp_skip ?_
        refine then_nrm ?_
        show Code.wp Tryd.prog _ _ _ _
        refine wp_seq ?_
        refine wp_region_list ?_
        refine W_callA hA (by decide) (fun _ _ => by kernel_rfl) (args0 ) (wakes_any _ (by first | exact (hTab.below HB).below hS | exact hTab.below HB)) (fun w8 hw a hA => ?_)
        replace HB := HB.trans (hw.mono HB.size)
        replace HH := HH.below hw
        replace LL := LL.below hw
        replace T5 := T5.below hw
        clear hw
        refine W_val hA rfl 4 rfl (by decide) _ _ (R_asg hA rfl rfl _) (fun a hA => ?_)
        refine W_nil ?_
        refine then_nrm ?_
        show Code.wp Tryd.prog _ _ _ _
        refine wp_ret ?_
        exact ret_tmp (j := 4) (by kernel_rfl) hA (by decide) rfl ⟨rfl, HB⟩
      refine W_gskip hA rfl rfl rfl 47 rfl (by decide) (fun a hA => ?_)
      refine W_gskip hA rfl rfl rfl 48 rfl (by decide) (fun a hA => ?_)
      refine W_gskip hA rfl rfl rfl 49 rfl (by decide) (fun a hA => ?_)
      refine W_gskip hA rfl rfl rfl 50 rfl (by decide) (fun a hA => ?_)
      refine W_gskip hA rfl rfl rfl 51 rfl (by decide) (fun a hA => ?_)
      refine W_gskip hA rfl rfl rfl 52 rfl (by decide) (fun a hA => ?_)
      refine W_val hA rfl 53 rfl (by decide) _ _ (R_pick hA rfl rfl rfl _) (fun a hA => ?_)
      refine W_nil ?_
      refine then_nrm ?_
      show Code.wp Tryd.prog _ _ _ _
      refine wp_cond_false (hA.ev (x := .tmp 53) rfl) ?_
      refine wp_skip ?_
      refine then_nrm ?_
      show Code.wp Tryd.prog _ _ _ _
      refine wp_seq ?_
      refine wp_region_list ?_
      refine W_callA hA (by decide) (fun _ _ => by kernel_rfl) (args0 ) (wakes_any _ (by first | exact (hTab.below HB).below hS | exact hTab.below HB)) (fun w9 hw a hA => ?_)
      replace HB := HB.trans (hw.mono HB.size)
      replace HH := HH.below hw
      replace LL := LL.below hw
      replace T5 := T5.below hw
      clear hw
      refine W_val hA rfl 4 rfl (by decide) _ _ (R_asg hA rfl rfl _) (fun a hA => ?_)
      refine W_nil ?_
      refine then_nrm ?_
      show Code.wp Tryd.prog _ _ _ _
      refine wp_ret ?_
      exact ret_tmp (j := 4) (by kernel_rfl) hA (by decide) rfl ⟨rfl, HB⟩
    refine W_gskip hA rfl rfl rfl 34 rfl (by decide) (fun a hA => ?_)
    refine W_gskip hA rfl rfl rfl 35 rfl (by decide) (fun a hA => ?_)
    refine W_gskip hA rfl rfl rfl 36 rfl (by decide) (fun a hA => ?_)
    refine W_gskip hA rfl rfl rfl 37 rfl (by decide) (fun a hA => ?_)
    refine W_gskip hA rfl rfl rfl 38 rfl (by decide) (fun a hA => ?_)
    refine W_val hA rfl 39 rfl (by decide) _ _ (R_pick hA rfl rfl rfl _) (fun a hA => ?_)
    refine W_nil ?_
    refine then_nrm ?_
    show Code.wp Tryd.prog _ _ _ _
    refine wp_cond_false (hA.ev (x := .tmp 39) rfl) ?_
    refine wp_skip ?_
    refine then_nrm ?_
    show Code.wp Tryd.prog _ _ _ _
    refine wp_seq ?_
    refine wp_seq ?_
    refine wp_region_list ?_
    refine W_val hA rfl 40 rfl (by decide) _ _ (R_fa hA rfl rfl (fun w => fa_hart _ 9 40 (by decide) rfl w) _) (fun a hA => ?_)
    refine W_val hA rfl 41 rfl (by decide) _ _ (R_ld hA rfl rfl ag_u64 (HH.u 40 (by decide) (by decide))) (fun a hA => ?_)
    refine W_val hA rfl 42 rfl (by decide) _ _ (R_mov hA rfl rfl _) (fun a hA => ?_)
    refine W_val hA rfl 43 rfl (by decide) _ _ (R_shrX hA rfl rfl (ok.n _).1 hn64 rfl _) (fun a hA => ?_)
    refine W_val hA rfl 44 rfl (by decide) _ _ (R_and hA rfl rfl rfl _) (fun a hA => ?_)
    refine W_val hA rfl 45 rfl (by decide) _ _ (R_eqlU hA rfl rfl rfl _) (fun a hA => ?_)
    refine W_val hA rfl 46 rfl (by decide) _ _ (R_mov hA rfl rfl _) (fun a hA => ?_)
    refine W_split hA 46 rfl (fun c5 hA => ?_) (fun c5 hA => ?_)
    · skip
      refine W_gval hA rfl rfl rfl 47 rfl (by decide) _ _ (R_fa hA rfl rfl (fun w => fa_hart _ 29 60 (by decide) rfl w) _) (fun a hA => ?_)
      refine W_gval hA rfl rfl rfl 48 rfl (by decide) _ _ (R_ld hA rfl rfl ag_u64 (HH.u 60 (by decide) (by decide))) (fun a hA => ?_)
      refine W_gval hA rfl rfl rfl 49 rfl (by decide) _ _ (R_mov hA rfl rfl _) (fun a hA => ?_)
      refine W_gval hA rfl rfl rfl 50 rfl (by decide) _ _ (R_shrX hA rfl rfl (ok.n _).1 hn64 rfl _) (fun a hA => ?_)
      refine W_gval hA rfl rfl rfl 51 rfl (by decide) _ _ (R_and hA rfl rfl rfl _) (fun a hA => ?_)
      refine W_gval hA rfl rfl rfl 52 rfl (by decide) _ _ (R_eqlU hA rfl rfl rfl _) (fun a hA => ?_)
      refine W_val hA rfl 53 rfl (by decide) _ _ (R_pick hA rfl rfl rfl _) (fun a hA => ?_)
      refine W_nil ?_
      refine then_nrm ?_
      show Code.wp Tryd.prog _ _ _ _
      refine wp_cond_split (hA.ev (x := .tmp 53) rfl) (fun c6 => ?_) (fun c6 => ?_)
      · skip
        have ev := next_guest hn ((has_bit (ok.n 40) n).symm.trans c5) ((has_bit (ok.n 60) n).symm.trans c6)
        refine wp_seq ?_
        refine wp_region_list ?_
        refine W_val hA rfl 54 rfl (by decide) _ _ (R_fa hA rfl rfl (fun w => fa_hart _ 3 34 (by decide) rfl w) _) (fun a hA => ?_)
        refine W_val hA rfl 55 rfl (by decide) _ _ (R_ld hA rfl rfl ag_bool (HH.v.trans (by rw [ev.1]))) (fun a hA => ?_)
        refine W_val hA rfl 56 rfl (by decide) _ _ (R_mov hA rfl rfl _) (fun a hA => ?_)
        refine W_gval hA rfl rfl rfl 57 rfl (by decide) _ _ (R_fa hA rfl rfl (fun w => fa_hart _ 2 33 (by decide) rfl w) _) (fun a hA => ?_)
        refine W_gval hA rfl rfl rfl 58 rfl (by decide) _ _ (R_ld hA rfl rfl ag_u8 HH.p) (fun a hA => ?_)
        refine W_gval hA rfl rfl rfl 59 rfl (by decide) _ _ (R_neqBN hA rfl rfl rfl true (by simpa using ev.2) _) (fun a hA => ?_)
        refine W_val hA rfl 60 rfl (by decide) _ _ (R_pick hA rfl rfl rfl _) (fun a hA => ?_)
        refine W_val hA rfl 61 rfl (by decide) _ _ (R_mov hA rfl rfl _) (fun a hA => ?_)
        refine W_gcallB hA rfl rfl (by decide) (fun _ _ => by kernel_rfl) (args0 ) (wakes_any _ (by first | exact (hTab.below HB).below hS | exact hTab.below HB)) (fun w10 hw a hA => ?_)
        replace HB := HB.trans (hw.mono HB.size)
        replace HH := HH.below hw
        replace LL := LL.below hw
        replace T5 := T5.below hw
        clear hw
        refine W_val hA rfl 63 rfl (by decide) _ _ (R_pick hA rfl rfl rfl _) (fun a hA => ?_)
        refine W_val hA rfl 4 rfl (by decide) _ _ (R_asg hA rfl rfl _) (fun a hA => ?_)
        refine W_nil ?_
        refine then_nrm ?_
        show Code.wp Tryd.prog _ _ _ _
        refine wp_ret ?_
        refine then_ret ?_
        exact ret_tmp (j := 4) (by kernel_rfl) hA (by decide) rfl ⟨rfl, HB⟩
      refine wp_skip ?_
      refine then_nrm ?_
      show Code.wp Tryd.prog _ _ _ _
      refine wp_seq ?_
      refine wp_region_list ?_
      refine W_callA hA (by decide) (fun _ _ => by kernel_rfl) (args0 ) (wakes_any _ (by first | exact (hTab.below HB).below hS | exact hTab.below HB)) (fun w11 hw a hA => ?_)
      replace HB := HB.trans (hw.mono HB.size)
      replace HH := HH.below hw
      replace LL := LL.below hw
      replace T5 := T5.below hw
      clear hw
      refine W_val hA rfl 4 rfl (by decide) _ _ (R_asg hA rfl rfl _) (fun a hA => ?_)
      refine W_nil ?_
      refine then_nrm ?_
      show Code.wp Tryd.prog _ _ _ _
      refine wp_ret ?_
      exact ret_tmp (j := 4) (by kernel_rfl) hA (by decide) rfl ⟨rfl, HB⟩
    refine W_gskip hA rfl rfl rfl 47 rfl (by decide) (fun a hA => ?_)
    refine W_gskip hA rfl rfl rfl 48 rfl (by decide) (fun a hA => ?_)
    refine W_gskip hA rfl rfl rfl 49 rfl (by decide) (fun a hA => ?_)
    refine W_gskip hA rfl rfl rfl 50 rfl (by decide) (fun a hA => ?_)
    refine W_gskip hA rfl rfl rfl 51 rfl (by decide) (fun a hA => ?_)
    refine W_gskip hA rfl rfl rfl 52 rfl (by decide) (fun a hA => ?_)
    refine W_val hA rfl 53 rfl (by decide) _ _ (R_pick hA rfl rfl rfl _) (fun a hA => ?_)
    refine W_nil ?_
    refine then_nrm ?_
    show Code.wp Tryd.prog _ _ _ _
    refine wp_cond_false (hA.ev (x := .tmp 53) rfl) ?_
    refine wp_skip ?_
    refine then_nrm ?_
    show Code.wp Tryd.prog _ _ _ _
    refine wp_seq ?_
    refine wp_region_list ?_
    refine W_callA hA (by decide) (fun _ _ => by kernel_rfl) (args0 ) (wakes_any _ (by first | exact (hTab.below HB).below hS | exact hTab.below HB)) (fun w12 hw a hA => ?_)
    replace HB := HB.trans (hw.mono HB.size)
    replace HH := HH.below hw
    replace LL := LL.below hw
    replace T5 := T5.below hw
    clear hw
    refine W_val hA rfl 4 rfl (by decide) _ _ (R_asg hA rfl rfl _) (fun a hA => ?_)
    refine W_nil ?_
    refine then_nrm ?_
    show Code.wp Tryd.prog _ _ _ _
    refine wp_ret ?_
    exact ret_tmp (j := 4) (by kernel_rfl) hA (by decide) rfl ⟨rfl, HB⟩
  refine W_gskip hA rfl rfl rfl 29 rfl (by decide) (fun a hA => ?_)
  refine W_gskip hA rfl rfl rfl 30 rfl (by decide) (fun a hA => ?_)
  refine W_gskip hA rfl rfl rfl 31 rfl (by decide) (fun a hA => ?_)
  refine W_val hA rfl 32 rfl (by decide) _ _ (R_pick hA rfl rfl rfl _) (fun a hA => ?_)
  refine W_val hA rfl 33 rfl (by decide) _ _ (R_mov hA rfl rfl _) (fun a hA => ?_)
  refine W_gskip hA rfl rfl rfl 34 rfl (by decide) (fun a hA => ?_)
  refine W_gskip hA rfl rfl rfl 35 rfl (by decide) (fun a hA => ?_)
  refine W_gskip hA rfl rfl rfl 36 rfl (by decide) (fun a hA => ?_)
  refine W_gskip hA rfl rfl rfl 37 rfl (by decide) (fun a hA => ?_)
  refine W_gskip hA rfl rfl rfl 38 rfl (by decide) (fun a hA => ?_)
  refine W_val hA rfl 39 rfl (by decide) _ _ (R_pick hA rfl rfl rfl _) (fun a hA => ?_)
  refine W_nil ?_
  refine then_nrm ?_
  show Code.wp Tryd.prog _ _ _ _
  refine wp_cond_false (hA.ev (x := .tmp 39) rfl) ?_
  refine wp_skip ?_
  refine then_nrm ?_
  show Code.wp Tryd.prog _ _ _ _
  refine wp_seq ?_
  refine wp_seq ?_
  refine wp_region_list ?_
  refine W_val hA rfl 40 rfl (by decide) _ _ (R_fa hA rfl rfl (fun w => fa_hart _ 9 40 (by decide) rfl w) _) (fun a hA => ?_)
  refine W_val hA rfl 41 rfl (by decide) _ _ (R_ld hA rfl rfl ag_u64 (HH.u 40 (by decide) (by decide))) (fun a hA => ?_)
  refine W_val hA rfl 42 rfl (by decide) _ _ (R_mov hA rfl rfl _) (fun a hA => ?_)
  refine W_val hA rfl 43 rfl (by decide) _ _ (R_shrX hA rfl rfl (ok.n _).1 hn64 rfl _) (fun a hA => ?_)
  refine W_val hA rfl 44 rfl (by decide) _ _ (R_and hA rfl rfl rfl _) (fun a hA => ?_)
  refine W_val hA rfl 45 rfl (by decide) _ _ (R_eqlU hA rfl rfl rfl _) (fun a hA => ?_)
  refine W_val hA rfl 46 rfl (by decide) _ _ (R_mov hA rfl rfl _) (fun a hA => ?_)
  refine W_split hA 46 rfl (fun c7 hA => ?_) (fun c7 hA => ?_)
  · skip
    refine W_gval hA rfl rfl rfl 47 rfl (by decide) _ _ (R_fa hA rfl rfl (fun w => fa_hart _ 29 60 (by decide) rfl w) _) (fun a hA => ?_)
    refine W_gval hA rfl rfl rfl 48 rfl (by decide) _ _ (R_ld hA rfl rfl ag_u64 (HH.u 60 (by decide) (by decide))) (fun a hA => ?_)
    refine W_gval hA rfl rfl rfl 49 rfl (by decide) _ _ (R_mov hA rfl rfl _) (fun a hA => ?_)
    refine W_gval hA rfl rfl rfl 50 rfl (by decide) _ _ (R_shrX hA rfl rfl (ok.n _).1 hn64 rfl _) (fun a hA => ?_)
    refine W_gval hA rfl rfl rfl 51 rfl (by decide) _ _ (R_and hA rfl rfl rfl _) (fun a hA => ?_)
    refine W_gval hA rfl rfl rfl 52 rfl (by decide) _ _ (R_eqlU hA rfl rfl rfl _) (fun a hA => ?_)
    refine W_val hA rfl 53 rfl (by decide) _ _ (R_pick hA rfl rfl rfl _) (fun a hA => ?_)
    refine W_nil ?_
    refine then_nrm ?_
    show Code.wp Tryd.prog _ _ _ _
    refine wp_cond_split (hA.ev (x := .tmp 53) rfl) (fun c8 => ?_) (fun c8 => ?_)
    · skip
      have ev := next_guest hn ((has_bit (ok.n 40) n).symm.trans c7) ((has_bit (ok.n 60) n).symm.trans c8)
      refine wp_seq ?_
      refine wp_region_list ?_
      refine W_val hA rfl 54 rfl (by decide) _ _ (R_fa hA rfl rfl (fun w => fa_hart _ 3 34 (by decide) rfl w) _) (fun a hA => ?_)
      refine W_val hA rfl 55 rfl (by decide) _ _ (R_ld hA rfl rfl ag_bool (HH.v.trans (by rw [ev.1]))) (fun a hA => ?_)
      refine W_val hA rfl 56 rfl (by decide) _ _ (R_mov hA rfl rfl _) (fun a hA => ?_)
      refine W_gval hA rfl rfl rfl 57 rfl (by decide) _ _ (R_fa hA rfl rfl (fun w => fa_hart _ 2 33 (by decide) rfl w) _) (fun a hA => ?_)
      refine W_gval hA rfl rfl rfl 58 rfl (by decide) _ _ (R_ld hA rfl rfl ag_u8 HH.p) (fun a hA => ?_)
      refine W_gval hA rfl rfl rfl 59 rfl (by decide) _ _ (R_neqBN hA rfl rfl rfl true (by simpa using ev.2) _) (fun a hA => ?_)
      refine W_val hA rfl 60 rfl (by decide) _ _ (R_pick hA rfl rfl rfl _) (fun a hA => ?_)
      refine W_val hA rfl 61 rfl (by decide) _ _ (R_mov hA rfl rfl _) (fun a hA => ?_)
      refine W_gcallB hA rfl rfl (by decide) (fun _ _ => by kernel_rfl) (args0 ) (wakes_any _ (by first | exact (hTab.below HB).below hS | exact hTab.below HB)) (fun w13 hw a hA => ?_)
      replace HB := HB.trans (hw.mono HB.size)
      replace HH := HH.below hw
      replace LL := LL.below hw
      replace T5 := T5.below hw
      clear hw
      refine W_val hA rfl 63 rfl (by decide) _ _ (R_pick hA rfl rfl rfl _) (fun a hA => ?_)
      refine W_val hA rfl 4 rfl (by decide) _ _ (R_asg hA rfl rfl _) (fun a hA => ?_)
      refine W_nil ?_
      refine then_nrm ?_
      show Code.wp Tryd.prog _ _ _ _
      refine wp_ret ?_
      refine then_ret ?_
      exact ret_tmp (j := 4) (by kernel_rfl) hA (by decide) rfl ⟨rfl, HB⟩
    refine wp_skip ?_
    refine then_nrm ?_
    show Code.wp Tryd.prog _ _ _ _
    refine wp_seq ?_
    refine wp_region_list ?_
    refine W_callA hA (by decide) (fun _ _ => by kernel_rfl) (args0 ) (wakes_any _ (by first | exact (hTab.below HB).below hS | exact hTab.below HB)) (fun w14 hw a hA => ?_)
    replace HB := HB.trans (hw.mono HB.size)
    replace HH := HH.below hw
    replace LL := LL.below hw
    replace T5 := T5.below hw
    clear hw
    refine W_val hA rfl 4 rfl (by decide) _ _ (R_asg hA rfl rfl _) (fun a hA => ?_)
    refine W_nil ?_
    refine then_nrm ?_
    show Code.wp Tryd.prog _ _ _ _
    refine wp_ret ?_
    exact ret_tmp (j := 4) (by kernel_rfl) hA (by decide) rfl ⟨rfl, HB⟩
  refine W_gskip hA rfl rfl rfl 47 rfl (by decide) (fun a hA => ?_)
  refine W_gskip hA rfl rfl rfl 48 rfl (by decide) (fun a hA => ?_)
  refine W_gskip hA rfl rfl rfl 49 rfl (by decide) (fun a hA => ?_)
  refine W_gskip hA rfl rfl rfl 50 rfl (by decide) (fun a hA => ?_)
  refine W_gskip hA rfl rfl rfl 51 rfl (by decide) (fun a hA => ?_)
  refine W_gskip hA rfl rfl rfl 52 rfl (by decide) (fun a hA => ?_)
  refine W_val hA rfl 53 rfl (by decide) _ _ (R_pick hA rfl rfl rfl _) (fun a hA => ?_)
  refine W_nil ?_
  refine then_nrm ?_
  show Code.wp Tryd.prog _ _ _ _
  refine wp_cond_false (hA.ev (x := .tmp 53) rfl) ?_
  refine wp_skip ?_
  refine then_nrm ?_
  show Code.wp Tryd.prog _ _ _ _
  refine wp_seq ?_
  refine wp_region_list ?_
  refine W_callA hA (by decide) (fun _ _ => by kernel_rfl) (args0 ) (wakes_any _ (by first | exact (hTab.below HB).below hS | exact hTab.below HB)) (fun w15 hw a hA => ?_)
  replace HB := HB.trans (hw.mono HB.size)
  replace HH := HH.below hw
  replace LL := LL.below hw
  replace T5 := T5.below hw
  clear hw
  refine W_val hA rfl 4 rfl (by decide) _ _ (R_asg hA rfl rfl _) (fun a hA => ?_)
  refine W_nil ?_
  refine then_nrm ?_
  show Code.wp Tryd.prog _ _ _ _
  refine wp_ret ?_
  exact ret_tmp (j := 4) (by kernel_rfl) hA (by decide) rfl ⟨rfl, HB⟩
theorem irqGuests_walk (t : HS) (l : LS) (w : World) (ok : HOk t) (lk : LOk l) (hTab : Tab w) : Calls Tryd.prog 5 #[hartV t, linesV l] w fun e w' => e = .returned (.bool true) ∧ Below w.heap.size w w' := by
  cases hn : nextZ t l with
  | none => exact irqGuests_none t l w ok lk hTab hn
  | some n => exact irqGuests_some t l w ok lk hTab hn
end Go.Proofs.YthgjgloedlkaiaaDoor
