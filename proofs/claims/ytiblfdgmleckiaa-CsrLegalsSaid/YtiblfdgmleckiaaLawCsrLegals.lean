/- Layer 12: the walk of CsrLegals (written by gen_csn.py by walkf.py). -/
import Derived.Test.YtiblfdgmleckiaaCsS
namespace Go.Proofs.Ytiblfdgmleckiaa
open Go.RowKit
set_option linter.unusedVariables false
set_option maxRecDepth 100000

theorem legal_true {s : HS} (ok : HOk s) (h : Lgl s) (w : World) : Calls Try.prog 22 #[hartV s] w fun e w' => e = .returned (.bool true) ∧ Below w.heap.size w w' := by
  have := legal_any s ok w
  rw [fix_of_lgl ok h, eqH_refl] at this; exact this
theorem bne_self (b : Bool) : (b != b) = false := by cases b <;> rfl
theorem known_is0 (no : Int) (b : Bool) (h : knownN no = b) (w : World) : Calls Try.prog 24 #[.int .i64 no] w fun e w' => e = .returned (.bool b) ∧ Below w.heap.size w w' := by
  have := known_any no w
  rw [h] at this; exact this
set_option maxHeartbeats 8000000 in
theorem csrLegals_true (t : HS) (l : LS) (no v : Int) (w : World) (ok : HOk t) (lk : LOk l) (hno : In63 no) (hv : In64 v) (hkb : knownN no = true) : Calls Try.prog 6 #[hartV t, linesV l, .int .i64 no, .int .u64 v] w fun e w' => e = .returned (.bool true) ∧ Below w.heap.size w w' := by
  have HB := Below.refl w.heap.size w
  go_enter Try.func6, Try.ntmps6
  refine begin_fr [(3, .int .u64 v), (2, .int .i64 no), (1, linesV l), (0, hartV t)] 51 ?_ (fun a hA => ?_)
  · exact FrA.add (FrA.add (FrA.add (FrA.add (FrA.nil (by rfl) (by rfl)) 0 _ (by rfl)) 1 _ (by rfl)) 2 _ (by rfl)) 3 _ (by rfl)
  refine wp_seq ?_
  refine wp_region_list ?_
  refine W_boxH hA rfl 4 rfl (by decide) rfl rfl (fun w1 bHH a hA hb HH gHH => ?_)
  replace gHH := Nat.le_trans HB.size gHH
  replace HB := HB.trans (hb.mono HB.size)
  clear hb
  refine W_boxL hA rfl 5 rfl (by decide) rfl rfl (fun w2 bLL a hA hb LL gLL => ?_)
  have nHHLL : bHH < bLL := by have := HH.lt; omega
  replace HH := HH.below hb
  replace gLL := Nat.le_trans HB.size gLL
  replace HB := HB.trans (hb.mono HB.size)
  clear hb
  refine W_val hA rfl 8 rfl (by decide) _ _ (R_asg hA rfl rfl _) (fun a hA => ?_)
  refine W_nil ?_
  refine then_nrm ?_
  show Code.wp Try.prog _ _ _ _
  refine wp_seq ?_
  refine wp_region_list ?_
  refine W_val hA rfl 12 rfl (by decide) _ _ (R_row hA rfl rfl HH Try.underlying25 (size_hart.trans (by rw [varr_size]))) (fun a hA => ?_)
  refine W_callA hA (by decide) (fun _ _ => by kernel_rfl) (args1 hA rfl) (fix_any t ok _) (fun w3 hw a hA => ?_)
  replace HB := HB.trans (hw.mono HB.size)
  replace HH := HH.below hw
  replace LL := LL.below hw
  clear hw
  refine W_allocH hA rfl 9 rfl (by decide) rfl (fun w4 bA9 a hA hb A9 gA9 => ?_)
  have nHHA9 : bHH < bA9 := by have := HH.lt; omega
  replace HH := HH.below hb
  have nLLA9 : bLL < bA9 := by have := LL.lt; omega
  replace LL := LL.below hb
  replace gA9 := Nat.le_trans HB.size gA9
  replace HB := HB.trans (hb.mono HB.size)
  clear hb
  refine W_cpH hA rfl rfl rfl rfl rfl A9 (fun w5 hT HN => ?_)
  replace HB := HB.trans (hT.bel _ gA9)
  replace HH := hT.hart HH (by omega)
  replace LL := hT.lines LL (by omega)
  replace A9 := HN
  clear hT HN
  refine W_nil ?_
  refine then_nrm ?_
  show Code.wp Try.prog _ _ _ _
  refine wp_seq ?_
  refine wp_region_list ?_
  refine W_val hA rfl 14 rfl (by decide) _ _ (R_row hA rfl rfl A9 Try.underlying25 (size_hart.trans (by rw [varr_size]))) (fun a hA => ?_)
  refine W_callA hA (by decide) (fun _ _ => by kernel_rfl) (args1 hA rfl) (fix_any (fixZ t) (ok_fix ok) _) (fun w6 hw a hA => ?_)
  replace HB := HB.trans (hw.mono HB.size)
  replace HH := HH.below hw
  replace LL := LL.below hw
  replace A9 := A9.below hw
  clear hw
  refine W_allocH hA rfl 10 rfl (by decide) rfl (fun w7 bA10 a hA hb A10 gA10 => ?_)
  have nHHA10 : bHH < bA10 := by have := HH.lt; omega
  replace HH := HH.below hb
  have nLLA10 : bLL < bA10 := by have := LL.lt; omega
  replace LL := LL.below hb
  have nA9A10 : bA9 < bA10 := by have := A9.lt; omega
  replace A9 := A9.below hb
  replace gA10 := Nat.le_trans HB.size gA10
  replace HB := HB.trans (hb.mono HB.size)
  clear hb
  refine W_cpH hA rfl rfl rfl rfl rfl A10 (fun w8 hT HN => ?_)
  replace HB := HB.trans (hT.bel _ gA10)
  replace HH := hT.hart HH (by omega)
  replace LL := hT.lines LL (by omega)
  replace A9 := hT.hart A9 (by omega)
  replace A10 := HN
  clear hT HN
  refine W_nil ?_
  refine then_nrm ?_
  show Code.wp Try.prog _ _ _ _
  refine wp_seq ?_
  refine wp_seq ?_
  refine wp_region_held_drew (S := fun wx => Below w8.heap.size w8 wx) (by kernel_rfl) ((Below.refl _ _).drew) (fun hS => ?_)
  refine takeF (i := 0) hA 16 rfl rfl (by decide) rfl (by kernel_rfl) (by kernel_rfl) (by kernel_rfl) (fun _ _ _ h => h) hS (fun wx hx => R_row hA rfl rfl (A9.below hx) Try.underlying25 (size_hart.trans (by rw [varr_size]))) (fun a hA => ?_)
  refine wpAnyH_ready (rs := [1]) (by kernel_rfl) (by simp) (ready_call (i := 1) hA (by decide) rfl (fun _ _ => by kernel_rfl) (args1 hA rfl) (legal_true (ok_fix ok) (lgl_fix ok) _) (fun _ h => hS.trans (h.mono hS.size)) (fun w9 hw a hA => ?_) AllReadyH.nil)
  replace hS := hS.trans (hw.mono hS.size)
  clear hw
  refine takeF (i := 2) hA 18 rfl rfl (by decide) rfl (by kernel_rfl) (by kernel_rfl) (by kernel_rfl) (fun _ _ _ h => h) hS (fun wx hx => R_not hA rfl rfl _) (fun a hA => ?_)
  refine takeF (i := 3) hA 19 rfl rfl (by decide) rfl (by kernel_rfl) (by kernel_rfl) (by kernel_rfl) (fun _ _ _ h => h) hS (fun wx hx => R_mov hA rfl rfl _) (fun a hA => ?_)
  refine takeFg (i := 4) hA 20 rfl rfl (by decide) rfl rfl rfl (by kernel_rfl) (by kernel_rfl) (by kernel_rfl) (fun _ _ _ h => h) hS (fun wx hx => R_row hA rfl rfl (A10.below hx) Try.underlying25 (size_hart.trans (by rw [varr_size]))) (fun a hA => ?_)
  refine takeFg (i := 5) hA 21 rfl rfl (by decide) rfl rfl rfl (by kernel_rfl) (by kernel_rfl) (by kernel_rfl) (fun _ _ _ h => h) hS (fun wx hx => R_row hA rfl rfl (A9.below hx) Try.underlying25 (size_hart.trans (by rw [varr_size]))) (fun a hA => ?_)
  refine takeFg (i := 6) hA 22 rfl rfl (by decide) rfl rfl rfl (by kernel_rfl) (by kernel_rfl) (by kernel_rfl) (fun _ _ _ h => h) hS (fun wx hx => R_neqH hA rfl rfl rfl false (by rw [fix_fix ok, eqH_refl]; rfl) _) (fun a hA => ?_)
  refine takeF (i := 7) hA 23 rfl rfl (by decide) rfl (by kernel_rfl) (by kernel_rfl) (by kernel_rfl) (fun _ _ _ h => h) hS (fun wx hx => R_pick hA rfl rfl rfl _) (fun a hA => ?_)
  refine takeF (i := 8) hA 24 rfl rfl (by decide) rfl (by kernel_rfl) (by kernel_rfl) (by kernel_rfl) (fun _ _ _ h => h) hS (fun wx hx => R_mov hA rfl rfl _) (fun a hA => ?_)
  refine takeFg (i := 9) hA 25 rfl rfl (by decide) rfl rfl rfl (by kernel_rfl) (by kernel_rfl) (by kernel_rfl) (fun _ _ _ h => h) hS (fun wx hx => R_row hA rfl rfl (HH.below hx) Try.underlying25 (size_hart.trans (by rw [varr_size]))) (fun a hA => ?_)
  refine takeFg (i := 11) hA 27 rfl rfl (by decide) rfl rfl rfl (by kernel_rfl) (by kernel_rfl) (by kernel_rfl) (fun _ _ _ h => h) hS (fun wx hx => R_row hA rfl rfl (A9.below hx) Try.underlying25 (size_hart.trans (by rw [varr_size]))) (fun a hA => ?_)
  refine takeFg (i := 12) hA 28 rfl rfl (by decide) rfl rfl rfl (by kernel_rfl) (by kernel_rfl) (by kernel_rfl) (fun _ _ _ h => h) hS (fun wx hx => R_row hA rfl rfl (HH.below hx) Try.underlying25 (size_hart.trans (by rw [varr_size]))) (fun a hA => ?_)
  refine takeFg (i := 13) hA 29 rfl rfl (by decide) rfl rfl rfl (by kernel_rfl) (by kernel_rfl) (by kernel_rfl) (fun _ _ _ h => h) hS (fun wx hx => R_eqlH hA rfl rfl rfl (eqH (fixZ t) t) (rfl) _) (fun a hA => ?_)
  refine wpAnyH_ready (rs := [10]) (by kernel_rfl) (by simp) (ready_gcall (i := 10) hA (by decide) rfl rfl rfl (fun _ _ => by kernel_rfl) (args1 hA rfl) (legal_any t ok _) (fun _ h => hS.trans (h.mono hS.size)) (fun w10 hw a hA => ?_) AllReadyH.nil)
  replace hS := hS.trans (hw.mono hS.size)
  clear hw
  refine takeFg (i := 14) hA 30 rfl rfl (by decide) rfl rfl rfl (by kernel_rfl) (by kernel_rfl) (by kernel_rfl) (fun _ _ _ h => h) hS (fun wx hx => R_neqBT hA rfl rfl rfl false (by rw [eqH_symm]; exact bne_self _) _) (fun a hA => ?_)
  refine takeF (i := 15) hA 31 rfl rfl (by decide) rfl (by kernel_rfl) (by kernel_rfl) (by kernel_rfl) (fun _ _ _ h => h) hS (fun wx hx => R_pick hA rfl rfl rfl _) (fun a hA => ?_)
  refine wpAnyH_done (by kernel_rfl) ?_ _
  replace HH := HH.below hS
  replace LL := LL.below hS
  replace A9 := A9.below hS
  replace A10 := A10.below hS
  replace HB := HB.trans (hS.mono HB.size)
  clear hS
  refine then_nrm ?_
  show Code.wp Try.prog _ _ _ _
  refine wp_cond_false (hA.ev (x := .tmp 31) rfl) ?_
  refine wp_skip ?_
  refine then_nrm ?_
  show Code.wp Try.prog _ _ _ _
  refine wp_seq ?_
  refine wp_region_list ?_
  refine W_val hA rfl 32 rfl (by decide) _ _ (R_row hA rfl rfl A9 Try.underlying25 (size_hart.trans (by rw [varr_size]))) (fun a hA => ?_)
  refine W_val hA rfl 33 rfl (by decide) _ _ (R_row hA rfl rfl LL Try.underlying27 (by kernel_rfl)) (fun a hA => ?_)
  refine W_val hA rfl 34 rfl (by decide) _ _ (R_mov hA rfl rfl _) (fun a hA => ?_)
  refine W_val hA rfl 35 rfl (by decide) _ _ (R_mov hA rfl rfl _) (fun a hA => ?_)
  refine W_callA hA (by decide) (fun _ _ => by kernel_rfl) (args4 hA rfl rfl rfl rfl) (write_any (fixZ t) l no v hv.1 _) (fun w11 hw a hA => ?_)
  replace HB := HB.trans (hw.mono HB.size)
  replace HH := HH.below hw
  replace LL := LL.below hw
  replace A9 := A9.below hw
  replace A10 := A10.below hw
  clear hw
  refine W_allocH hA rfl 11 rfl (by decide) rfl (fun w12 bA11 a hA hb A11 gA11 => ?_)
  have nHHA11 : bHH < bA11 := by have := HH.lt; omega
  replace HH := HH.below hb
  have nLLA11 : bLL < bA11 := by have := LL.lt; omega
  replace LL := LL.below hb
  have nA9A11 : bA9 < bA11 := by have := A9.lt; omega
  replace A9 := A9.below hb
  have nA10A11 : bA10 < bA11 := by have := A10.lt; omega
  replace A10 := A10.below hb
  replace gA11 := Nat.le_trans HB.size gA11
  replace HB := HB.trans (hb.mono HB.size)
  clear hb
  refine W_cpH hA rfl rfl rfl rfl rfl A11 (fun w13 hT HN => ?_)
  replace HB := HB.trans (hT.bel _ gA11)
  replace HH := hT.hart HH (by omega)
  replace LL := hT.lines LL (by omega)
  replace A9 := hT.hart A9 (by omega)
  replace A10 := hT.hart A10 (by omega)
  replace A11 := HN
  clear hT HN
  refine W_nil ?_
  refine then_nrm ?_
  show Code.wp Try.prog _ _ _ _
  refine wp_seq ?_
  refine wp_region_list ?_
  refine W_val hA rfl 37 rfl (by decide) _ _ (R_row hA rfl rfl A11 Try.underlying25 (size_hart.trans (by rw [varr_size]))) (fun a hA => ?_)
  refine W_callA hA (by decide) (fun _ _ => by kernel_rfl) (args1 hA rfl) (legal_true (ok_write (ok_fix ok) no v) (lgl_write (ok_fix ok) (lgl_fix ok) no hv) _) (fun w14 hw a hA => ?_)
  replace HB := HB.trans (hw.mono HB.size)
  replace HH := HH.below hw
  replace LL := LL.below hw
  replace A9 := A9.below hw
  replace A10 := A10.below hw
  replace A11 := A11.below hw
  clear hw
  refine W_val hA rfl 39 rfl (by decide) _ _ (R_mov hA rfl rfl _) (fun a hA => ?_)
  refine W_gval hA rfl rfl rfl 40 rfl (by decide) _ _ (R_mov hA rfl rfl _) (fun a hA => ?_)
  refine W_gcallB hA rfl rfl (by decide) (fun _ _ => by kernel_rfl) (args1 hA rfl) (known_is0 no true hkb _) (fun w15 hw a hA => ?_)
  replace HB := HB.trans (hw.mono HB.size)
  replace HH := HH.below hw
  replace LL := LL.below hw
  replace A9 := A9.below hw
  replace A10 := A10.below hw
  replace A11 := A11.below hw
  clear hw
  refine W_gval hA rfl rfl rfl 42 rfl (by decide) _ _ (R_mov hA rfl rfl _) (fun a hA => ?_)
  refine W_gskip hA rfl rfl rfl 43 rfl (by decide) (fun a hA => ?_)
  refine W_gskip hA rfl rfl rfl 44 rfl (by decide) (fun a hA => ?_)
  refine W_gskip hA rfl rfl rfl 45 rfl (by decide) (fun a hA => ?_)
  refine W_gval hA rfl rfl rfl 46 rfl (by decide) _ _ (R_pick hA rfl rfl rfl _) (fun a hA => ?_)
  refine W_val hA rfl 47 rfl (by decide) _ _ (R_pick hA rfl rfl rfl _) (fun a hA => ?_)
  refine W_val hA rfl 48 rfl (by decide) _ _ (R_mov hA rfl rfl _) (fun a hA => ?_)
  refine W_gcallB hA rfl rfl (by decide) (fun _ _ => by kernel_rfl) (args0 ) (wakes_any _) (fun w16 hw a hA => ?_)
  replace HB := HB.trans (hw.mono HB.size)
  replace HH := HH.below hw
  replace LL := LL.below hw
  replace A9 := A9.below hw
  replace A10 := A10.below hw
  replace A11 := A11.below hw
  clear hw
  refine W_val hA rfl 50 rfl (by decide) _ _ (R_pick hA rfl rfl rfl _) (fun a hA => ?_)
  refine W_val hA rfl 8 rfl (by decide) _ _ (R_asg hA rfl rfl _) (fun a hA => ?_)
  refine W_nil ?_
  refine then_nrm ?_
  show Code.wp Try.prog _ _ _ _
  refine wp_ret ?_
  exact ret_tmp (j := 8) (by kernel_rfl) hA (by decide) rfl ⟨rfl, HB⟩
set_option maxHeartbeats 8000000 in
theorem csrLegals_false (t : HS) (l : LS) (no v : Int) (w : World) (ok : HOk t) (lk : LOk l) (hno : In63 no) (hv : In64 v) (hkb : knownN no = false) : Calls Try.prog 6 #[hartV t, linesV l, .int .i64 no, .int .u64 v] w fun e w' => e = .returned (.bool true) ∧ Below w.heap.size w w' := by
  have HB := Below.refl w.heap.size w
  go_enter Try.func6, Try.ntmps6
  refine begin_fr [(3, .int .u64 v), (2, .int .i64 no), (1, linesV l), (0, hartV t)] 51 ?_ (fun a hA => ?_)
  · exact FrA.add (FrA.add (FrA.add (FrA.add (FrA.nil (by rfl) (by rfl)) 0 _ (by rfl)) 1 _ (by rfl)) 2 _ (by rfl)) 3 _ (by rfl)
  refine wp_seq ?_
  refine wp_region_list ?_
  refine W_boxH hA rfl 4 rfl (by decide) rfl rfl (fun w1 bHH a hA hb HH gHH => ?_)
  replace gHH := Nat.le_trans HB.size gHH
  replace HB := HB.trans (hb.mono HB.size)
  clear hb
  refine W_boxL hA rfl 5 rfl (by decide) rfl rfl (fun w2 bLL a hA hb LL gLL => ?_)
  have nHHLL : bHH < bLL := by have := HH.lt; omega
  replace HH := HH.below hb
  replace gLL := Nat.le_trans HB.size gLL
  replace HB := HB.trans (hb.mono HB.size)
  clear hb
  refine W_val hA rfl 8 rfl (by decide) _ _ (R_asg hA rfl rfl _) (fun a hA => ?_)
  refine W_nil ?_
  refine then_nrm ?_
  show Code.wp Try.prog _ _ _ _
  refine wp_seq ?_
  refine wp_region_list ?_
  refine W_val hA rfl 12 rfl (by decide) _ _ (R_row hA rfl rfl HH Try.underlying25 (size_hart.trans (by rw [varr_size]))) (fun a hA => ?_)
  refine W_callA hA (by decide) (fun _ _ => by kernel_rfl) (args1 hA rfl) (fix_any t ok _) (fun w3 hw a hA => ?_)
  replace HB := HB.trans (hw.mono HB.size)
  replace HH := HH.below hw
  replace LL := LL.below hw
  clear hw
  refine W_allocH hA rfl 9 rfl (by decide) rfl (fun w4 bA9 a hA hb A9 gA9 => ?_)
  have nHHA9 : bHH < bA9 := by have := HH.lt; omega
  replace HH := HH.below hb
  have nLLA9 : bLL < bA9 := by have := LL.lt; omega
  replace LL := LL.below hb
  replace gA9 := Nat.le_trans HB.size gA9
  replace HB := HB.trans (hb.mono HB.size)
  clear hb
  refine W_cpH hA rfl rfl rfl rfl rfl A9 (fun w5 hT HN => ?_)
  replace HB := HB.trans (hT.bel _ gA9)
  replace HH := hT.hart HH (by omega)
  replace LL := hT.lines LL (by omega)
  replace A9 := HN
  clear hT HN
  refine W_nil ?_
  refine then_nrm ?_
  show Code.wp Try.prog _ _ _ _
  refine wp_seq ?_
  refine wp_region_list ?_
  refine W_val hA rfl 14 rfl (by decide) _ _ (R_row hA rfl rfl A9 Try.underlying25 (size_hart.trans (by rw [varr_size]))) (fun a hA => ?_)
  refine W_callA hA (by decide) (fun _ _ => by kernel_rfl) (args1 hA rfl) (fix_any (fixZ t) (ok_fix ok) _) (fun w6 hw a hA => ?_)
  replace HB := HB.trans (hw.mono HB.size)
  replace HH := HH.below hw
  replace LL := LL.below hw
  replace A9 := A9.below hw
  clear hw
  refine W_allocH hA rfl 10 rfl (by decide) rfl (fun w7 bA10 a hA hb A10 gA10 => ?_)
  have nHHA10 : bHH < bA10 := by have := HH.lt; omega
  replace HH := HH.below hb
  have nLLA10 : bLL < bA10 := by have := LL.lt; omega
  replace LL := LL.below hb
  have nA9A10 : bA9 < bA10 := by have := A9.lt; omega
  replace A9 := A9.below hb
  replace gA10 := Nat.le_trans HB.size gA10
  replace HB := HB.trans (hb.mono HB.size)
  clear hb
  refine W_cpH hA rfl rfl rfl rfl rfl A10 (fun w8 hT HN => ?_)
  replace HB := HB.trans (hT.bel _ gA10)
  replace HH := hT.hart HH (by omega)
  replace LL := hT.lines LL (by omega)
  replace A9 := hT.hart A9 (by omega)
  replace A10 := HN
  clear hT HN
  refine W_nil ?_
  refine then_nrm ?_
  show Code.wp Try.prog _ _ _ _
  refine wp_seq ?_
  refine wp_seq ?_
  refine wp_region_held_drew (S := fun wx => Below w8.heap.size w8 wx) (by kernel_rfl) ((Below.refl _ _).drew) (fun hS => ?_)
  refine takeF (i := 0) hA 16 rfl rfl (by decide) rfl (by kernel_rfl) (by kernel_rfl) (by kernel_rfl) (fun _ _ _ h => h) hS (fun wx hx => R_row hA rfl rfl (A9.below hx) Try.underlying25 (size_hart.trans (by rw [varr_size]))) (fun a hA => ?_)
  refine wpAnyH_ready (rs := [1]) (by kernel_rfl) (by simp) (ready_call (i := 1) hA (by decide) rfl (fun _ _ => by kernel_rfl) (args1 hA rfl) (legal_true (ok_fix ok) (lgl_fix ok) _) (fun _ h => hS.trans (h.mono hS.size)) (fun w9 hw a hA => ?_) AllReadyH.nil)
  replace hS := hS.trans (hw.mono hS.size)
  clear hw
  refine takeF (i := 2) hA 18 rfl rfl (by decide) rfl (by kernel_rfl) (by kernel_rfl) (by kernel_rfl) (fun _ _ _ h => h) hS (fun wx hx => R_not hA rfl rfl _) (fun a hA => ?_)
  refine takeF (i := 3) hA 19 rfl rfl (by decide) rfl (by kernel_rfl) (by kernel_rfl) (by kernel_rfl) (fun _ _ _ h => h) hS (fun wx hx => R_mov hA rfl rfl _) (fun a hA => ?_)
  refine takeFg (i := 4) hA 20 rfl rfl (by decide) rfl rfl rfl (by kernel_rfl) (by kernel_rfl) (by kernel_rfl) (fun _ _ _ h => h) hS (fun wx hx => R_row hA rfl rfl (A10.below hx) Try.underlying25 (size_hart.trans (by rw [varr_size]))) (fun a hA => ?_)
  refine takeFg (i := 5) hA 21 rfl rfl (by decide) rfl rfl rfl (by kernel_rfl) (by kernel_rfl) (by kernel_rfl) (fun _ _ _ h => h) hS (fun wx hx => R_row hA rfl rfl (A9.below hx) Try.underlying25 (size_hart.trans (by rw [varr_size]))) (fun a hA => ?_)
  refine takeFg (i := 6) hA 22 rfl rfl (by decide) rfl rfl rfl (by kernel_rfl) (by kernel_rfl) (by kernel_rfl) (fun _ _ _ h => h) hS (fun wx hx => R_neqH hA rfl rfl rfl false (by rw [fix_fix ok, eqH_refl]; rfl) _) (fun a hA => ?_)
  refine takeF (i := 7) hA 23 rfl rfl (by decide) rfl (by kernel_rfl) (by kernel_rfl) (by kernel_rfl) (fun _ _ _ h => h) hS (fun wx hx => R_pick hA rfl rfl rfl _) (fun a hA => ?_)
  refine takeF (i := 8) hA 24 rfl rfl (by decide) rfl (by kernel_rfl) (by kernel_rfl) (by kernel_rfl) (fun _ _ _ h => h) hS (fun wx hx => R_mov hA rfl rfl _) (fun a hA => ?_)
  refine takeFg (i := 9) hA 25 rfl rfl (by decide) rfl rfl rfl (by kernel_rfl) (by kernel_rfl) (by kernel_rfl) (fun _ _ _ h => h) hS (fun wx hx => R_row hA rfl rfl (HH.below hx) Try.underlying25 (size_hart.trans (by rw [varr_size]))) (fun a hA => ?_)
  refine takeFg (i := 11) hA 27 rfl rfl (by decide) rfl rfl rfl (by kernel_rfl) (by kernel_rfl) (by kernel_rfl) (fun _ _ _ h => h) hS (fun wx hx => R_row hA rfl rfl (A9.below hx) Try.underlying25 (size_hart.trans (by rw [varr_size]))) (fun a hA => ?_)
  refine takeFg (i := 12) hA 28 rfl rfl (by decide) rfl rfl rfl (by kernel_rfl) (by kernel_rfl) (by kernel_rfl) (fun _ _ _ h => h) hS (fun wx hx => R_row hA rfl rfl (HH.below hx) Try.underlying25 (size_hart.trans (by rw [varr_size]))) (fun a hA => ?_)
  refine takeFg (i := 13) hA 29 rfl rfl (by decide) rfl rfl rfl (by kernel_rfl) (by kernel_rfl) (by kernel_rfl) (fun _ _ _ h => h) hS (fun wx hx => R_eqlH hA rfl rfl rfl (eqH (fixZ t) t) (rfl) _) (fun a hA => ?_)
  refine wpAnyH_ready (rs := [10]) (by kernel_rfl) (by simp) (ready_gcall (i := 10) hA (by decide) rfl rfl rfl (fun _ _ => by kernel_rfl) (args1 hA rfl) (legal_any t ok _) (fun _ h => hS.trans (h.mono hS.size)) (fun w10 hw a hA => ?_) AllReadyH.nil)
  replace hS := hS.trans (hw.mono hS.size)
  clear hw
  refine takeFg (i := 14) hA 30 rfl rfl (by decide) rfl rfl rfl (by kernel_rfl) (by kernel_rfl) (by kernel_rfl) (fun _ _ _ h => h) hS (fun wx hx => R_neqBT hA rfl rfl rfl false (by rw [eqH_symm]; exact bne_self _) _) (fun a hA => ?_)
  refine takeF (i := 15) hA 31 rfl rfl (by decide) rfl (by kernel_rfl) (by kernel_rfl) (by kernel_rfl) (fun _ _ _ h => h) hS (fun wx hx => R_pick hA rfl rfl rfl _) (fun a hA => ?_)
  refine wpAnyH_done (by kernel_rfl) ?_ _
  replace HH := HH.below hS
  replace LL := LL.below hS
  replace A9 := A9.below hS
  replace A10 := A10.below hS
  replace HB := HB.trans (hS.mono HB.size)
  clear hS
  refine then_nrm ?_
  show Code.wp Try.prog _ _ _ _
  refine wp_cond_false (hA.ev (x := .tmp 31) rfl) ?_
  refine wp_skip ?_
  refine then_nrm ?_
  show Code.wp Try.prog _ _ _ _
  refine wp_seq ?_
  refine wp_region_list ?_
  refine W_val hA rfl 32 rfl (by decide) _ _ (R_row hA rfl rfl A9 Try.underlying25 (size_hart.trans (by rw [varr_size]))) (fun a hA => ?_)
  refine W_val hA rfl 33 rfl (by decide) _ _ (R_row hA rfl rfl LL Try.underlying27 (by kernel_rfl)) (fun a hA => ?_)
  refine W_val hA rfl 34 rfl (by decide) _ _ (R_mov hA rfl rfl _) (fun a hA => ?_)
  refine W_val hA rfl 35 rfl (by decide) _ _ (R_mov hA rfl rfl _) (fun a hA => ?_)
  refine W_callA hA (by decide) (fun _ _ => by kernel_rfl) (args4 hA rfl rfl rfl rfl) (write_any (fixZ t) l no v hv.1 _) (fun w11 hw a hA => ?_)
  replace HB := HB.trans (hw.mono HB.size)
  replace HH := HH.below hw
  replace LL := LL.below hw
  replace A9 := A9.below hw
  replace A10 := A10.below hw
  clear hw
  refine W_allocH hA rfl 11 rfl (by decide) rfl (fun w12 bA11 a hA hb A11 gA11 => ?_)
  have nHHA11 : bHH < bA11 := by have := HH.lt; omega
  replace HH := HH.below hb
  have nLLA11 : bLL < bA11 := by have := LL.lt; omega
  replace LL := LL.below hb
  have nA9A11 : bA9 < bA11 := by have := A9.lt; omega
  replace A9 := A9.below hb
  have nA10A11 : bA10 < bA11 := by have := A10.lt; omega
  replace A10 := A10.below hb
  replace gA11 := Nat.le_trans HB.size gA11
  replace HB := HB.trans (hb.mono HB.size)
  clear hb
  refine W_cpH hA rfl rfl rfl rfl rfl A11 (fun w13 hT HN => ?_)
  replace HB := HB.trans (hT.bel _ gA11)
  replace HH := hT.hart HH (by omega)
  replace LL := hT.lines LL (by omega)
  replace A9 := hT.hart A9 (by omega)
  replace A10 := hT.hart A10 (by omega)
  replace A11 := HN
  clear hT HN
  refine W_nil ?_
  refine then_nrm ?_
  show Code.wp Try.prog _ _ _ _
  refine wp_seq ?_
  refine wp_region_list ?_
  refine W_val hA rfl 37 rfl (by decide) _ _ (R_row hA rfl rfl A11 Try.underlying25 (size_hart.trans (by rw [varr_size]))) (fun a hA => ?_)
  refine W_callA hA (by decide) (fun _ _ => by kernel_rfl) (args1 hA rfl) (legal_true (ok_write (ok_fix ok) no v) (lgl_write (ok_fix ok) (lgl_fix ok) no hv) _) (fun w14 hw a hA => ?_)
  replace HB := HB.trans (hw.mono HB.size)
  replace HH := HH.below hw
  replace LL := LL.below hw
  replace A9 := A9.below hw
  replace A10 := A10.below hw
  replace A11 := A11.below hw
  clear hw
  refine W_val hA rfl 39 rfl (by decide) _ _ (R_mov hA rfl rfl _) (fun a hA => ?_)
  refine W_gval hA rfl rfl rfl 40 rfl (by decide) _ _ (R_mov hA rfl rfl _) (fun a hA => ?_)
  refine W_gcallB hA rfl rfl (by decide) (fun _ _ => by kernel_rfl) (args1 hA rfl) (known_is0 no false hkb _) (fun w15 hw a hA => ?_)
  replace HB := HB.trans (hw.mono HB.size)
  replace HH := HH.below hw
  replace LL := LL.below hw
  replace A9 := A9.below hw
  replace A10 := A10.below hw
  replace A11 := A11.below hw
  clear hw
  refine W_gval hA rfl rfl rfl 42 rfl (by decide) _ _ (R_mov hA rfl rfl _) (fun a hA => ?_)
  refine W_gval hA rfl rfl rfl 43 rfl (by decide) _ _ (R_row hA rfl rfl A11 Try.underlying25 (size_hart.trans (by rw [varr_size]))) (fun a hA => ?_)
  refine W_gval hA rfl rfl rfl 44 rfl (by decide) _ _ (R_row hA rfl rfl A9 Try.underlying25 (size_hart.trans (by rw [varr_size]))) (fun a hA => ?_)
  refine W_gval hA rfl rfl rfl 45 rfl (by decide) _ _ (R_eqlH hA rfl rfl rfl true (by rw [write_unknown _ _ hkb]; exact eqH_refl _) _) (fun a hA => ?_)
  refine W_gval hA rfl rfl rfl 46 rfl (by decide) _ _ (R_pick hA rfl rfl rfl _) (fun a hA => ?_)
  refine W_val hA rfl 47 rfl (by decide) _ _ (R_pick hA rfl rfl rfl _) (fun a hA => ?_)
  refine W_val hA rfl 48 rfl (by decide) _ _ (R_mov hA rfl rfl _) (fun a hA => ?_)
  refine W_gcallB hA rfl rfl (by decide) (fun _ _ => by kernel_rfl) (args0 ) (wakes_any _) (fun w16 hw a hA => ?_)
  replace HB := HB.trans (hw.mono HB.size)
  replace HH := HH.below hw
  replace LL := LL.below hw
  replace A9 := A9.below hw
  replace A10 := A10.below hw
  replace A11 := A11.below hw
  clear hw
  refine W_val hA rfl 50 rfl (by decide) _ _ (R_pick hA rfl rfl rfl _) (fun a hA => ?_)
  refine W_val hA rfl 8 rfl (by decide) _ _ (R_asg hA rfl rfl _) (fun a hA => ?_)
  refine W_nil ?_
  refine then_nrm ?_
  show Code.wp Try.prog _ _ _ _
  refine wp_ret ?_
  exact ret_tmp (j := 8) (by kernel_rfl) hA (by decide) rfl ⟨rfl, HB⟩
theorem csrLegals_walk (t : HS) (l : LS) (no v : Int) (w : World) (ok : HOk t) (lk : LOk l) (hno : In63 no) (hv : In64 v) : Calls Try.prog 6 #[hartV t, linesV l, .int .i64 no, .int .u64 v] w fun e w' => e = .returned (.bool true) ∧ Below w.heap.size w w' := by
  cases h : knownN no
  · exact csrLegals_false t l no v w ok lk hno hv h
  · exact csrLegals_true t l no v w ok lk hno hv h
end Go.Proofs.Ytiblfdgmleckiaa
