/- Layer 12: the walk of CsrSame (written by gen_csn.py by walkf.py). -/
import Derived.Test.YtiblfdgmleckiaaCsR
namespace Go.Proofs.Ytiblfdgmleckiaa
open Go.RowKit
set_option linter.unusedVariables false
set_option maxRecDepth 100000

set_option maxHeartbeats 8000000 in
theorem csrSame_walk (t : HS) (l : LS) (no : Int) (w : World) (ok : HOk t) (lk : LOk l) (hno : In63 no) : Calls Try.prog 8 #[hartV t, linesV l, .int .i64 no] w fun e w' => e = .returned (.bool true) ∧ Below w.heap.size w w' := by
  have HB := Below.refl w.heap.size w
  go_enter Try.func8, Try.ntmps8
  refine begin_fr [(2, .int .i64 no), (1, linesV l), (0, hartV t)] 22 ?_ (fun a hA => ?_)
  · exact FrA.add (FrA.add (FrA.add (FrA.nil (by rfl) (by rfl)) 0 _ (by rfl)) 1 _ (by rfl)) 2 _ (by rfl)
  refine wp_seq ?_
  refine wp_region_list ?_
  refine W_boxH hA rfl 3 rfl (by decide) rfl rfl (fun w1 bHH a hA hb HH gHH => ?_)
  replace gHH := Nat.le_trans HB.size gHH
  replace HB := HB.trans (hb.mono HB.size)
  clear hb
  refine W_boxL hA rfl 4 rfl (by decide) rfl rfl (fun w2 bLL a hA hb LL gLL => ?_)
  have nHHLL : bHH < bLL := by have := HH.lt; omega
  replace HH := HH.below hb
  replace gLL := Nat.le_trans HB.size gLL
  replace HB := HB.trans (hb.mono HB.size)
  clear hb
  refine W_val hA rfl 6 rfl (by decide) _ _ (R_asg hA rfl rfl _) (fun a hA => ?_)
  refine W_nil ?_
  refine then_nrm ?_
  show Code.wp Try.prog _ _ _ _
  refine wp_seq ?_
  refine wp_region_list ?_
  refine W_val hA rfl 7 rfl (by decide) _ _ (R_row hA rfl rfl HH Try.underlying25 (size_hart.trans (by rw [varr_size]))) (fun a hA => ?_)
  refine W_callA hA (by decide) (fun _ _ => by kernel_rfl) (args1 hA rfl) (fix_any t ok _) (fun w3 hw a hA => ?_)
  replace HB := HB.trans (hw.mono HB.size)
  replace HH := HH.below hw
  replace LL := LL.below hw
  clear hw
  refine W_cpH hA rfl rfl rfl rfl rfl HH (fun w4 hT HN => ?_)
  replace HB := HB.trans (hT.bel _ gHH)
  replace LL := hT.lines LL (by omega)
  replace HH := HN
  clear hT HN
  refine W_nil ?_
  refine then_nrm ?_
  show Code.wp Try.prog _ _ _ _
  refine wp_seq ?_
  refine wp_region_held_drew (S := fun wx => Below w4.heap.size w4 wx) (by kernel_rfl) ((Below.refl _ _).drew) (fun hS => ?_)
  refine takeF (i := 0) hA 9 rfl rfl (by decide) rfl (by kernel_rfl) (by kernel_rfl) (by kernel_rfl) (fun _ _ _ h => h) hS (fun wx hx => R_row hA rfl rfl (HH.below hx) Try.underlying25 (size_hart.trans (by rw [varr_size]))) (fun a hA => ?_)
  refine takeF (i := 1) hA 10 rfl rfl (by decide) rfl (by kernel_rfl) (by kernel_rfl) (by kernel_rfl) (fun _ _ _ h => h) hS (fun wx hx => R_row hA rfl rfl (LL.below hx) Try.underlying27 (by kernel_rfl)) (fun a hA => ?_)
  refine takeF (i := 2) hA 11 rfl rfl (by decide) rfl (by kernel_rfl) (by kernel_rfl) (by kernel_rfl) (fun _ _ _ h => h) hS (fun wx hx => R_mov hA rfl rfl _) (fun a hA => ?_)
  refine takeF (i := 3) hA 12 rfl rfl (by decide) rfl (by kernel_rfl) (by kernel_rfl) (by kernel_rfl) (fun _ _ _ h => h) hS (fun wx hx => R_row hA rfl rfl (HH.below hx) Try.underlying25 (size_hart.trans (by rw [varr_size]))) (fun a hA => ?_)
  refine takeF (i := 4) hA 13 rfl rfl (by decide) rfl (by kernel_rfl) (by kernel_rfl) (by kernel_rfl) (fun _ _ _ h => h) hS (fun wx hx => R_row hA rfl rfl (LL.below hx) Try.underlying27 (by kernel_rfl)) (fun a hA => ?_)
  refine takeF (i := 5) hA 14 rfl rfl (by decide) rfl (by kernel_rfl) (by kernel_rfl) (by kernel_rfl) (fun _ _ _ h => h) hS (fun wx hx => R_mov hA rfl rfl _) (fun a hA => ?_)
  refine takeF (i := 8) hA 17 rfl rfl (by decide) rfl (by kernel_rfl) (by kernel_rfl) (by kernel_rfl) (fun _ _ _ h => h) hS (fun wx hx => R_row hA rfl rfl (HH.below hx) Try.underlying25 (size_hart.trans (by rw [varr_size]))) (fun a hA => ?_)
  refine wpAnyH_ready (rs := [6]) (by kernel_rfl) (by simp) (ready_call (i := 6) hA (by decide) rfl (fun _ _ => by kernel_rfl) (args3 hA rfl rfl rfl) (base_any (fixZ t) (ok_fix ok) l no _) (fun _ h => hS.trans (h.mono hS.size)) (fun w5 hw a hA => ?_) AllReadyH.nil)
  replace hS := hS.trans (hw.mono hS.size)
  clear hw
  refine wpAnyH_ready (rs := [7]) (by kernel_rfl) (by simp) (ready_call (i := 7) hA (by decide) rfl (fun _ _ => by kernel_rfl) (args4 hA rfl rfl rfl rfl) (write_any (fixZ t) l no (baseZ (fixZ t) l no) (base_in (ok_fix ok) lk no).1 _) (fun _ h => hS.trans (h.mono hS.size)) (fun w6 hw a hA => ?_) AllReadyH.nil)
  replace hS := hS.trans (hw.mono hS.size)
  clear hw
  refine takeF (i := 9) hA 18 rfl rfl (by decide) rfl (by kernel_rfl) (by kernel_rfl) (by kernel_rfl) (fun _ _ _ h => h) hS (fun wx hx => R_eqlH hA rfl rfl rfl true (by rw [same_eq (ok_fix ok) (lgl_fix ok)]; exact eqH_refl _) _) (fun a hA => ?_)
  refine takeF (i := 10) hA 19 rfl rfl (by decide) rfl (by kernel_rfl) (by kernel_rfl) (by kernel_rfl) (fun _ _ _ h => h) hS (fun wx hx => R_mov hA rfl rfl _) (fun a hA => ?_)
  refine wpAnyH_ready (rs := [11]) (by kernel_rfl) (by simp) (ready_gcall (i := 11) hA (by decide) rfl rfl rfl (fun _ _ => by kernel_rfl) (args0 ) (wakes_any _) (fun _ h => hS.trans (h.mono hS.size)) (fun w7 hw a hA => ?_) AllReadyH.nil)
  replace hS := hS.trans (hw.mono hS.size)
  clear hw
  refine takeF (i := 12) hA 21 rfl rfl (by decide) rfl (by kernel_rfl) (by kernel_rfl) (by kernel_rfl) (fun _ _ _ h => h) hS (fun wx hx => R_pick hA rfl rfl rfl _) (fun a hA => ?_)
  refine takeF (i := 13) hA 6 rfl rfl (by decide) rfl (by kernel_rfl) (by kernel_rfl) (by kernel_rfl) (fun _ _ _ h => h) hS (fun wx hx => R_asg hA rfl rfl _) (fun a hA => ?_)
  refine wpAnyH_done (by kernel_rfl) ?_ _
  replace HH := HH.below hS
  replace LL := LL.below hS
  replace HB := HB.trans (hS.mono HB.size)
  clear hS
  refine then_nrm ?_
  show Code.wp Try.prog _ _ _ _
  refine wp_ret ?_
  exact ret_tmp (j := 6) (by kernel_rfl) hA (by decide) rfl ⟨rfl, HB⟩
end Go.Proofs.Ytiblfdgmleckiaa
