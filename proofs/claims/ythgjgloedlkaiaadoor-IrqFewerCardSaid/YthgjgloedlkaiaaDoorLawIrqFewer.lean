/- Layer 13: the walk of IrqFewer (written by gen_iqh.py by walkf.py). -/
import Derived.Test.YthgjgloedlkaiaaDoorIqH
namespace Go.Proofs.YthgjgloedlkaiaaDoor
open Go.RowKit
set_option linter.unusedVariables false
set_option maxRecDepth 100000

section
variable {w : World} {o : Oper} {a : Act} {l : List (Nat × Value)} {n : Nat}
theorem R_remB (hA : FrA l n a) {x y : Operand} (ho : o.op = .binOp .rem 5 x y 5) {u : Int} (hu : 0 ≤ u ∧ u < 256) {k : Nat} (hk : u % 64 = (k : Int)) (hx : evL l x = some (.int .u8 u)) (hy : evL l y = some (.int .u8 64)) (w : World) : (execOp a.eval o).run Tryd.prog w = .ok (.value (.int .u8 (k : Int))) w := by
  have e : u.tmod 64 = u % 64 := Int.tmod_eq_emod_of_nonneg hu.1
  have e2 : IntKind.u8.wrap (u % 64) = u % 64 := by
    have h1 : 0 ≤ u % 64 := by omega
    have h2 : u % 64 < 64 := by omega
    simp [IntKind.wrap, IntKind.bits, IntKind.signed]; omega
  unfold execOp; simp only [ho, hA.ev hx, hA.ev hy]; simp [go_sem, e, e2, hk]
theorem R_cvBQ (hA : FrA l n a) {x : Operand} (ho : o.op = .convert 5 22 x) {k : Nat} (hk : k < 256) (hx : evL l x = some (.int .u8 (k : Int))) (w : World) : (execOp a.eval o).run Tryd.prog w = .ok (.value (.int .u64 (k : Int))) w := by
  have e : IntKind.u64.wrap (k : Int) = k := by rw [IntKind.wrap_u64]; omega
  unfold execOp; simp only [ho, hA.ev hx]; simp [go_sem, e]
end
theorem ok_less {t : HS} (ok : HOk t) (k : Nat) : HOk (lessZ t k) := ok.put (andNot_in _ _) (fun e => by cases e)
set_option maxHeartbeats 8000000 in
theorem irqFewer_none (t : HS) (l : LS) (u : Int) (w : World) (ok : HOk t) (lk : LOk l) (hu : 0 ≤ u ∧ u < 256) (hTab : Tab w) (hn : nextZ t l = none) : Calls Tryd.prog 6 #[hartV t, linesV l, .int .u8 u] w fun e w' => e = .returned (.bool true) ∧ Below w.heap.size w w' := by
  obtain ⟨k, hku, hk64⟩ : ∃ k : Nat, u % 64 = (k : Int) ∧ k < 64 := ⟨(u % 64).toNat, by omega, by omega⟩
  have HB := Below.refl w.heap.size w
  go_enter Tryd.func6, Tryd.ntmps6
  refine begin_fr [(2, .int .u8 u), (1, linesV l), (0, hartV t)] 42 ?_ (fun a hA => ?_)
  · exact FrA.add (FrA.add (FrA.add (FrA.nil (by rfl) (by rfl)) 0 _ (by rfl)) 1 _ (by rfl)) 2 _ (by rfl)
  refine wp_seq ?_
  refine wp_region_list ?_
  refine W_boxH hA rfl 3 rfl (by decide) rfl rfl (fun w1 bHH a hA hb HH gHH => ?_)
  replace gHH := Nat.le_trans HB.size gHH
  replace HB := HB.trans (hb.mono HB.size)
  clear hb
  refine W_boxL hA rfl 4 rfl (by decide) rfl rfl (fun w2 bLL a hA hb LL gLL => ?_)
  have nHHLL : bHH < bLL := by have := HH.lt; omega
  replace HH := HH.below hb
  replace gLL := Nat.le_trans HB.size gLL
  replace HB := HB.trans (hb.mono HB.size)
  clear hb
  refine W_val hA rfl 6 rfl (by decide) _ _ (R_asg hA rfl rfl _) (fun a hA => ?_)
  refine W_nil ?_
  refine then_nrm ?_
  show Code.wp Tryd.prog _ _ _ _
  refine wp_seq ?_
  refine wp_region_list ?_
  refine W_val hA rfl 10 rfl (by decide) _ _ (R_row hA rfl rfl HH Tryd.underlying25 (size_hart.trans (by rw [varr_size]))) (fun a hA => ?_)
  refine W_val hA rfl 11 rfl (by decide) _ _ (R_row hA rfl rfl LL Tryd.underlying27 (by kernel_rfl)) (fun a hA => ?_)
  refine W_callA hA (by decide) (fun _ _ => by kernel_rfl) (args2 hA rfl rfl) (next_of_none ok hn _ (by first | exact (hTab.below HB).below hS | exact hTab.below HB)) (fun w3 hw a hA => ?_)
  replace HB := HB.trans (hw.mono HB.size)
  replace HH := HH.below hw
  replace LL := LL.below hw
  clear hw
  refine W_allocTr hA rfl 7 rfl (by decide) rfl (fun w4 bT7 a hA hb T7 gT7 => ?_)
  have nHHT7 : bHH < bT7 := by have := HH.lt; omega
  replace HH := HH.below hb
  have nLLT7 : bLL < bT7 := by have := LL.lt; omega
  replace LL := LL.below hb
  replace gT7 := Nat.le_trans HB.size gT7
  replace HB := HB.trans (hb.mono HB.size)
  clear hb
  refine W_cpTr hA rfl rfl rfl rfl rfl T7 (fun w5 hT HN => ?_)
  replace HB := HB.trans (hT.bel _ gT7)
  replace HH := hT.hart HH (by omega)
  replace LL := hT.lines LL (by omega)
  replace T7 := HN
  clear hT HN
  refine W_nil ?_
  refine then_nrm ?_
  show Code.wp Tryd.prog _ _ _ _
  refine wp_seq ?_
  refine wp_region_list ?_
  refine W_val hA rfl 13 rfl (by decide) _ _ (R_fa hA rfl rfl (fun w => fa_tr1 _ w) _) (fun a hA => ?_)
  refine W_val hA rfl 14 rfl (by decide) _ _ (R_ld hA rfl rfl ag_u64 (TrB.c1 T7)) (fun a hA => ?_)
  refine W_val hA rfl 15 rfl (by decide) _ _ (R_andNot hA rfl rfl rfl _) (fun a hA => ?_)
  refine W_val hA rfl 8 rfl (by decide) _ _ (R_asg hA rfl rfl _) (fun a hA => ?_)
  refine W_nil ?_
  refine then_nrm ?_
  show Code.wp Tryd.prog _ _ _ _
  refine wp_seq ?_
  refine wp_region_list ?_
  refine W_val hA rfl 16 rfl (by decide) _ _ (R_mov hA rfl rfl _) (fun a hA => ?_)
  refine W_val hA rfl 17 rfl (by decide) _ _ (R_remB hA rfl hu hku rfl rfl _) (fun a hA => ?_)
  refine W_val hA rfl 18 rfl (by decide) _ _ (R_cvBQ hA rfl (by omega) rfl _) (fun a hA => ?_)
  refine W_val hA rfl 9 rfl (by decide) _ _ (R_asg hA rfl rfl _) (fun a hA => ?_)
  refine W_nil ?_
  refine then_nrm ?_
  show Code.wp Tryd.prog _ _ _ _
  refine wp_seq ?_
  refine wp_seq ?_
  refine wp_region_list ?_
  refine W_val hA rfl 19 rfl (by decide) _ _ (R_fa hA rfl rfl (fun w => fa_tr0 _ w) _) (fun a hA => ?_)
  refine W_val hA rfl 20 rfl (by decide) _ _ (R_ld hA rfl rfl ag_bool (TrB.c0 T7)) (fun a hA => ?_)
  refine W_val hA rfl 21 rfl (by decide) _ _ (R_not hA rfl rfl _) (fun a hA => ?_)
  refine W_val hA rfl 22 rfl (by decide) _ _ (R_mov hA rfl rfl _) (fun a hA => ?_)
  refine W_gskip hA rfl rfl rfl 23 rfl (by decide) (fun a hA => ?_)
  refine W_gskip hA rfl rfl rfl 24 rfl (by decide) (fun a hA => ?_)
  refine W_gskip hA rfl rfl rfl 25 rfl (by decide) (fun a hA => ?_)
  refine W_val hA rfl 26 rfl (by decide) _ _ (R_pick hA rfl rfl rfl _) (fun a hA => ?_)
  refine W_nil ?_
  refine then_nrm ?_
  show Code.wp Tryd.prog _ _ _ _
  refine wp_cond_true (hA.ev (x := .tmp 26) rfl) ?_
  refine wp_seq ?_
  refine wp_region_list ?_
  refine W_callA hA (by decide) (fun _ _ => by kernel_rfl) (args0 ) (wakes_any _ (by first | exact (hTab.below HB).below hS | exact hTab.below HB)) (fun w6 hw a hA => ?_)
  replace HB := HB.trans (hw.mono HB.size)
  replace HH := HH.below hw
  replace LL := LL.below hw
  replace T7 := T7.below hw
  clear hw
  refine W_val hA rfl 6 rfl (by decide) _ _ (R_asg hA rfl rfl _) (fun a hA => ?_)
  refine W_nil ?_
  refine then_nrm ?_
  show Code.wp Tryd.prog _ _ _ _
  refine wp_ret ?_
  refine then_ret ?_
  exact ret_tmp (j := 6) (by kernel_rfl) hA (by decide) rfl ⟨rfl, HB⟩
set_option maxHeartbeats 8000000 in
theorem irqFewer_some (t : HS) (l : LS) (u : Int) (w : World) (ok : HOk t) (lk : LOk l) (hu : 0 ≤ u ∧ u < 256) (hTab : Tab w) {n : Nat} (hn : nextZ t l = some n) : Calls Tryd.prog 6 #[hartV t, linesV l, .int .u8 u] w fun e w' => e = .returned (.bool true) ∧ Below w.heap.size w w' := by
  obtain ⟨k, hku, hk64⟩ : ∃ k : Nat, u % 64 = (k : Int) ∧ k < 64 := ⟨(u % 64).toNat, by omega, by omega⟩
  have hn64 : n < 64 := (nextZ_some hn).1
  have ha := (nextZ_some hn).2.1
  have HB := Below.refl w.heap.size w
  go_enter Tryd.func6, Tryd.ntmps6
  refine begin_fr [(2, .int .u8 u), (1, linesV l), (0, hartV t)] 42 ?_ (fun a hA => ?_)
  · exact FrA.add (FrA.add (FrA.add (FrA.nil (by rfl) (by rfl)) 0 _ (by rfl)) 1 _ (by rfl)) 2 _ (by rfl)
  refine wp_seq ?_
  refine wp_region_list ?_
  refine W_boxH hA rfl 3 rfl (by decide) rfl rfl (fun w1 bHH a hA hb HH gHH => ?_)
  replace gHH := Nat.le_trans HB.size gHH
  replace HB := HB.trans (hb.mono HB.size)
  clear hb
  refine W_boxL hA rfl 4 rfl (by decide) rfl rfl (fun w2 bLL a hA hb LL gLL => ?_)
  have nHHLL : bHH < bLL := by have := HH.lt; omega
  replace HH := HH.below hb
  replace gLL := Nat.le_trans HB.size gLL
  replace HB := HB.trans (hb.mono HB.size)
  clear hb
  refine W_val hA rfl 6 rfl (by decide) _ _ (R_asg hA rfl rfl _) (fun a hA => ?_)
  refine W_nil ?_
  refine then_nrm ?_
  show Code.wp Tryd.prog _ _ _ _
  refine wp_seq ?_
  refine wp_region_list ?_
  refine W_val hA rfl 10 rfl (by decide) _ _ (R_row hA rfl rfl HH Tryd.underlying25 (size_hart.trans (by rw [varr_size]))) (fun a hA => ?_)
  refine W_val hA rfl 11 rfl (by decide) _ _ (R_row hA rfl rfl LL Tryd.underlying27 (by kernel_rfl)) (fun a hA => ?_)
  refine W_callA hA (by decide) (fun _ _ => by kernel_rfl) (args2 hA rfl rfl) (next_of_some ok hn _ (by first | exact (hTab.below HB).below hS | exact hTab.below HB)) (fun w3 hw a hA => ?_)
  replace HB := HB.trans (hw.mono HB.size)
  replace HH := HH.below hw
  replace LL := LL.below hw
  clear hw
  refine W_allocTr hA rfl 7 rfl (by decide) rfl (fun w4 bT7 a hA hb T7 gT7 => ?_)
  have nHHT7 : bHH < bT7 := by have := HH.lt; omega
  replace HH := HH.below hb
  have nLLT7 : bLL < bT7 := by have := LL.lt; omega
  replace LL := LL.below hb
  replace gT7 := Nat.le_trans HB.size gT7
  replace HB := HB.trans (hb.mono HB.size)
  clear hb
  refine W_cpTr hA rfl rfl rfl rfl rfl T7 (fun w5 hT HN => ?_)
  replace HB := HB.trans (hT.bel _ gT7)
  replace HH := hT.hart HH (by omega)
  replace LL := hT.lines LL (by omega)
  replace T7 := HN
  clear hT HN
  refine W_nil ?_
  refine then_nrm ?_
  show Code.wp Tryd.prog _ _ _ _
  refine wp_seq ?_
  refine wp_region_list ?_
  refine W_val hA rfl 13 rfl (by decide) _ _ (R_fa hA rfl rfl (fun w => fa_tr1 _ w) _) (fun a hA => ?_)
  refine W_val hA rfl 14 rfl (by decide) _ _ (R_ld hA rfl rfl ag_u64 (TrB.c1 T7)) (fun a hA => ?_)
  refine W_val hA rfl 15 rfl (by decide) _ _ (R_andN hA rfl rfl rfl (cause_num n hn64) _) (fun a hA => ?_)
  refine W_val hA rfl 8 rfl (by decide) _ _ (R_asg hA rfl rfl _) (fun a hA => ?_)
  refine W_nil ?_
  refine then_nrm ?_
  show Code.wp Tryd.prog _ _ _ _
  refine wp_seq ?_
  refine wp_region_list ?_
  refine W_val hA rfl 16 rfl (by decide) _ _ (R_mov hA rfl rfl _) (fun a hA => ?_)
  refine W_val hA rfl 17 rfl (by decide) _ _ (R_remB hA rfl hu hku rfl rfl _) (fun a hA => ?_)
  refine W_val hA rfl 18 rfl (by decide) _ _ (R_cvBQ hA rfl (by omega) rfl _) (fun a hA => ?_)
  refine W_val hA rfl 9 rfl (by decide) _ _ (R_asg hA rfl rfl _) (fun a hA => ?_)
  refine W_nil ?_
  refine then_nrm ?_
  show Code.wp Tryd.prog _ _ _ _
  refine wp_seq ?_
  refine wp_seq ?_
  refine wp_region_list ?_
  refine W_val hA rfl 19 rfl (by decide) _ _ (R_fa hA rfl rfl (fun w => fa_tr0 _ w) _) (fun a hA => ?_)
  refine W_val hA rfl 20 rfl (by decide) _ _ (R_ld hA rfl rfl ag_bool (TrB.c0 T7)) (fun a hA => ?_)
  refine W_val hA rfl 21 rfl (by decide) _ _ (R_not hA rfl rfl _) (fun a hA => ?_)
  refine W_val hA rfl 22 rfl (by decide) _ _ (R_mov hA rfl rfl _) (fun a hA => ?_)
  refine W_gval hA rfl rfl rfl 23 rfl (by decide) _ _ (R_mov hA rfl rfl _) (fun a hA => ?_)
  refine W_gval hA rfl rfl rfl 24 rfl (by decide) _ _ (R_mov hA rfl rfl _) (fun a hA => ?_)
  refine W_gval hA rfl rfl rfl 25 rfl (by decide) _ _ (R_eqlU hA rfl rfl rfl _) (fun a hA => ?_)
  refine W_val hA rfl 26 rfl (by decide) _ _ (R_pick hA rfl rfl rfl _) (fun a hA => ?_)
  refine W_nil ?_
  refine then_nrm ?_
  show Code.wp Tryd.prog _ _ _ _
  refine wp_cond_split (hA.ev (x := .tmp 26) rfl) (fun c1 => ?_) (fun c1 => ?_)
  · skip
    refine wp_seq ?_
    refine wp_region_list ?_
    refine W_callA hA (by decide) (fun _ _ => by kernel_rfl) (args0 ) (wakes_any _ (by first | exact (hTab.below HB).below hS | exact hTab.below HB)) (fun w6 hw a hA => ?_)
    replace HB := HB.trans (hw.mono HB.size)
    replace HH := HH.below hw
    replace LL := LL.below hw
    replace T7 := T7.below hw
    clear hw
    refine W_val hA rfl 6 rfl (by decide) _ _ (R_asg hA rfl rfl _) (fun a hA => ?_)
    refine W_nil ?_
    refine then_nrm ?_
    show Code.wp Tryd.prog _ _ _ _
    refine wp_ret ?_
    refine then_ret ?_
    exact ret_tmp (j := 6) (by kernel_rfl) hA (by decide) rfl ⟨rfl, HB⟩
  have hkn : ¬ k = n := by have := beq_eq_false_iff_ne.1 c1; omega
  have okl : HOk (lessZ t k) := ok_less ok k
  refine wp_skip ?_
  refine then_nrm ?_
  show Code.wp Tryd.prog _ _ _ _
  refine wp_seq ?_
  refine wp_region_list ?_
  refine W_val hA rfl 28 rfl (by decide) _ _ (R_fa hA rfl rfl (fun w => fa_hart _ 10 41 (by decide) rfl w) _) (fun a hA => ?_)
  refine W_val hA rfl 29 rfl (by decide) _ _ (R_ld hA rfl rfl ag_u64 (HH.u 41 (by decide) (by decide))) (fun a hA => ?_)
  refine W_val hA rfl 30 rfl (by decide) _ _ (R_mov hA rfl rfl _) (fun a hA => ?_)
  refine W_val hA rfl 31 rfl (by decide) _ _ (R_shlX hA rfl hk64 rfl rfl _) (fun a hA => ?_)
  refine W_val hA rfl 32 rfl (by decide) _ _ (R_andNot hA rfl rfl rfl _) (fun a hA => ?_)
  refine W_val hA rfl 33 rfl (by decide) _ _ (R_fa hA rfl rfl (fun w => fa_hart _ 10 41 (by decide) rfl w) _) (fun a hA => ?_)
  refine W_stU hA rfl rfl rfl rfl rfl HH (by decide) (by decide) (fun w7 hT HN => ?_)
  replace HB := HB.trans (hT.bel _ gHH)
  replace LL := hT.lines LL (by omega)
  replace T7 := hT.trap T7 (by omega)
  replace HH := HN
  clear hT HN
  refine W_nil ?_
  refine then_nrm ?_
  show Code.wp Tryd.prog _ _ _ _
  refine wp_seq ?_
  refine wp_region_held_drew (S := fun wx => Below w7.heap.size w7 wx) (by kernel_rfl) ((Below.refl _ _).drew) (fun hS => ?_)
  refine takeF (i := 0) hA 34 rfl rfl (by decide) rfl (by kernel_rfl) (by kernel_rfl) (by kernel_rfl) (fun _ _ _ h => h) hS (fun wx hx => R_row hA rfl rfl (HH.below hx) Tryd.underlying25 (size_hart.trans (by rw [varr_size]))) (fun a hA => ?_)
  refine takeF (i := 1) hA 35 rfl rfl (by decide) rfl (by kernel_rfl) (by kernel_rfl) (by kernel_rfl) (fun _ _ _ h => h) hS (fun wx hx => R_row hA rfl rfl (LL.below hx) Tryd.underlying27 (by kernel_rfl)) (fun a hA => ?_)
  refine takeF (i := 3) hA 37 rfl rfl (by decide) rfl (by kernel_rfl) (by kernel_rfl) (by kernel_rfl) (fun _ _ _ h => h) hS (fun wx hx => R_row hA rfl rfl (T7.below hx) Tryd.underlying30 (size_tr _ _)) (fun a hA => ?_)
  refine wpAnyH_ready (rs := [2]) (by kernel_rfl) (by simp) (ready_call (i := 2) hA (by decide) rfl (fun _ _ => by kernel_rfl) (args2 hA rfl rfl) (next_of_some okl (next_less hk64 hkn hn) _ (by first | exact (hTab.below HB).below hS | exact hTab.below HB)) (fun _ h => hS.trans (h.mono hS.size)) (fun w8 hw a hA => ?_) AllReadyH.nil)
  replace hS := hS.trans (hw.mono hS.size)
  clear hw
  refine takeF (i := 4) hA 38 rfl rfl (by decide) rfl (by kernel_rfl) (by kernel_rfl) (by kernel_rfl) (fun _ _ _ h => h) hS (fun wx hx => R_eqlTT hA rfl rfl rfl true (by simp) _) (fun a hA => ?_)
  refine takeF (i := 5) hA 39 rfl rfl (by decide) rfl (by kernel_rfl) (by kernel_rfl) (by kernel_rfl) (fun _ _ _ h => h) hS (fun wx hx => R_mov hA rfl rfl _) (fun a hA => ?_)
  refine wpAnyH_ready (rs := [6]) (by kernel_rfl) (by simp) (ready_gcall (i := 6) hA (by decide) rfl rfl rfl (fun _ _ => by kernel_rfl) (args0 ) (wakes_any _ (by first | exact (hTab.below HB).below hS | exact hTab.below HB)) (fun _ h => hS.trans (h.mono hS.size)) (fun w9 hw a hA => ?_) AllReadyH.nil)
  replace hS := hS.trans (hw.mono hS.size)
  clear hw
  refine takeF (i := 7) hA 41 rfl rfl (by decide) rfl (by kernel_rfl) (by kernel_rfl) (by kernel_rfl) (fun _ _ _ h => h) hS (fun wx hx => R_pick hA rfl rfl rfl _) (fun a hA => ?_)
  refine takeF (i := 8) hA 6 rfl rfl (by decide) rfl (by kernel_rfl) (by kernel_rfl) (by kernel_rfl) (fun _ _ _ h => h) hS (fun wx hx => R_asg hA rfl rfl _) (fun a hA => ?_)
  refine wpAnyH_done (by kernel_rfl) ?_ _
  replace HH := HH.below hS
  replace LL := LL.below hS
  replace T7 := T7.below hS
  replace HB := HB.trans (hS.mono HB.size)
  clear hS
  refine then_nrm ?_
  show Code.wp Tryd.prog _ _ _ _
  refine wp_ret ?_
  exact ret_tmp (j := 6) (by kernel_rfl) hA (by decide) rfl ⟨rfl, HB⟩
theorem irqFewer_walk (t : HS) (l : LS) (u : Int) (w : World) (ok : HOk t) (lk : LOk l) (hu : 0 ≤ u ∧ u < 256) (hTab : Tab w) : Calls Tryd.prog 6 #[hartV t, linesV l, .int .u8 u] w fun e w' => e = .returned (.bool true) ∧ Below w.heap.size w w' := by
  cases hn : nextZ t l with
  | none => exact irqFewer_none t l u w ok lk hu hTab hn
  | some n => exact irqFewer_some t l u w ok lk hu hTab hn
end Go.Proofs.YthgjgloedlkaiaaDoor
