/- Layer 12: Legal, Base of the document, wakes (written by gen_csm.py by walkf.py). -/
import Derived.Test.YtkfhpmleelmcfaaWk5
import Derived.Test.YtkfhpmleelmcfaaCsL
namespace Go.Proofs.Ytkfhpmleelmcfaa
open Go.RowKit
set_option linter.unusedVariables false
set_option maxRecDepth 100000

theorem fixN_in {t : HS} (ok : HOk t) (i : Nat) : In64 (fixN t i) := by
  have z : In64 0 := by unfold In64; decide
  unfold fixN
  by_cases c0 : i = 0
  · rw [if_pos c0]; exact andNot_in _ _
  rw [if_neg c0]
  by_cases c1 : i = 1
  · rw [if_pos c1]; exact z
  rw [if_neg c1]
  by_cases c2 : i = 33
  · rw [if_pos c2]
    by_cases q : t.n 33 = 1 ∨ t.n 33 = 3
    · rw [if_pos q]; exact ok.n _
    · rw [if_neg q]; exact z
  rw [if_neg c2]
  by_cases c3 : i = 37
  · rw [if_pos c3]; cases t.held
    · exact z
    · exact and_in _ _
  rw [if_neg c3]
  by_cases c4 : i = 42
  · rw [if_pos c4]; exact and_in _ _
  rw [if_neg c4]
  by_cases c5 : i = 38
  · rw [if_pos c5]; cases noModeB (maskZ 0 (t.n 38))
    · exact or_in _ _
    · exact andNot_in _ _
  rw [if_neg c5]
  by_cases c6 : i = 57
  · rw [if_pos c6]; cases noTabB (maskZ 20 (t.n 57))
    · exact or_in _ _
    · exact z
  rw [if_neg c6]
  by_cases c7 : i = 66
  · rw [if_pos c7]; cases noTabB (maskZ 29 (t.n 66))
    · exact or_in _ _
    · exact z
  rw [if_neg c7]
  by_cases c8 : i = 74
  · rw [if_pos c8]; cases noTabB (maskZ 37 (t.n 74))
    · exact or_in _ _
    · exact z
  rw [if_neg c8]
  by_cases c9 : icF i < 38
  · rw [if_pos c9]; exact or_in _ _
  · rw [if_neg c9]; exact ok.n _

theorem ok_fix {t : HS} (ok : HOk t) : HOk (fixZ t) := ⟨fixN_in ok, by
  show (if t.n 33 = 1 ∨ t.n 33 = 3 then t.n 33 else 0) < 256
  by_cases q : t.n 33 = 1 ∨ t.n 33 = 3
  · rw [if_pos q]; exact ok.p
  · rw [if_neg q]; decide⟩

theorem putZ_in {k : Nat} {o v : Int} (ho : In64 o) : In64 (putZ k o v) := by
  unfold putZ
  by_cases c : k = 0
  · rw [if_pos c]; exact merge_in _ _ _
  rw [if_neg c]
  by_cases d : k = 20 ∨ k = 37 ∨ k = 29
  · rw [if_pos d]; cases noTabB v
    · exact merge_in _ _ _
    · exact ho
  · rw [if_neg d]; exact merge_in _ _ _

theorem ok_put {t : HS} (ok : HOk t) {c : Nat} (hc : ¬ c = 33) {x : Int} (hx : In64 x) : HOk (t.put c x) := ok.put hx (fun e => absurd e hc)

theorem ok_write {t : HS} (ok : HOk t) (no v : Int) : HOk (writeZ t no v) := by
  unfold writeZ writeM
  by_cases h : ixF (meantZ t.v no) < 38
  · rw [if_pos h]
    obtain ⟨k1, _, _⟩ := clF_in _ h
    exact ok_put ok (by omega) (putZ_in (ok.n _))
  · rw [if_neg h]
    unfold viewW
    generalize meantZ t.v no = m
    by_cases c1 : m = 256
    · rw [if_pos c1]; exact ok_put ok (by decide) (merge_in _ _ _)
    rw [if_neg c1]
    by_cases c2 : m = 836
    · rw [if_pos c2]; exact ok_put (ok_put ok (by decide) (merge_in _ _ _)) (by decide) (merge_in _ _ _)
    rw [if_neg c2]
    by_cases c3 : m = 1604
    · rw [if_pos c3]; exact ok_put ok (by decide) (merge_in _ _ _)
    rw [if_neg c3]
    by_cases c4 : m = 324
    · rw [if_pos c4]; exact ok_put ok (by decide) (merge_in _ _ _)
    rw [if_neg c4]
    by_cases c5 : m = 580
    · rw [if_pos c5]; exact ok_put ok (by decide) (merge_in _ _ _)
    rw [if_neg c5]
    by_cases c6 : m = 260
    · rw [if_pos c6]; exact ok_put ok (by decide) (merge_in _ _ _)
    rw [if_neg c6]
    by_cases c7 : m = 1540
    · rw [if_pos c7]; exact ok_put ok (by decide) (merge_in _ _ _)
    rw [if_neg c7]
    by_cases c8 : m = 516
    · rw [if_pos c8]; exact ok_put ok (by decide) (merge_in _ _ _)
    rw [if_neg c8]; exact ok

theorem ok_zero : HOk hZ := ⟨fun i => by show In64 0; unfold In64; decide, by show (0 : Int) < 256; decide⟩

def lZ : LS := ⟨false, false, false, false, 0, 0⟩

theorem lok_zero : LOk lZ := ⟨by show In64 0; unfold In64; decide, by show In64 0; unfold In64; decide⟩

set_option maxHeartbeats 8000000 in
theorem legal_any (t : HS) (ok : HOk t) (w : World) : Calls Try.prog 18 #[hartV t] w fun e w' => e = .returned (.bool (eqH t (fixZ t))) ∧ Below w.heap.size w w' := by
  have HB := Below.refl w.heap.size w
  go_enter Try.func18, Try.ntmps18
  refine begin_fr [(0, hartV t)] 7 ?_ (fun a hA => ?_)
  · exact FrA.add (FrA.nil (by rfl) (by rfl)) 0 _ (by rfl)
  refine wp_seq ?_
  refine wp_region_list ?_
  refine W_boxH hA rfl 1 rfl (by decide) rfl rfl (fun w1 bHH a hA hb HH gHH => ?_)
  replace gHH := Nat.le_trans HB.size gHH
  replace HB := HB.trans (hb.mono HB.size)
  clear hb
  refine W_val hA rfl 2 rfl (by decide) _ _ (R_asg hA rfl rfl _) (fun a hA => ?_)
  refine W_nil ?_
  refine then_nrm ?_
  show Code.wp Try.prog _ _ _ _
  refine wp_seq ?_
  refine wp_region_held_drew (S := fun wx => Below w1.heap.size w1 wx) (by kernel_rfl) ((Below.refl _ _).drew) (fun hS => ?_)
  refine takeF (i := 0) hA 3 rfl rfl (by decide) rfl (by kernel_rfl) (by kernel_rfl) (by kernel_rfl) (fun _ _ _ h => h) hS (fun wx hx => R_row hA rfl rfl (HH.below hx) Try.underlying25 (size_hart.trans (by rw [varr_size]))) (fun a hA => ?_)
  refine takeF (i := 1) hA 4 rfl rfl (by decide) rfl (by kernel_rfl) (by kernel_rfl) (by kernel_rfl) (fun _ _ _ h => h) hS (fun wx hx => R_row hA rfl rfl (HH.below hx) Try.underlying25 (size_hart.trans (by rw [varr_size]))) (fun a hA => ?_)
  refine wpAnyH_ready (rs := [2]) (by kernel_rfl) (by simp) (ready_call (i := 2) hA (by decide) rfl (fun _ _ => by kernel_rfl) (args1 hA rfl) (fix_any _ (by assumption) _) (fun _ h => hS.trans (h.mono hS.size)) (fun w2 hw a hA => ?_) AllReadyH.nil)
  replace hS := hS.trans (hw.mono hS.size)
  clear hw
  refine takeF (i := 3) hA 6 rfl rfl (by decide) rfl (by kernel_rfl) (by kernel_rfl) (by kernel_rfl) (fun _ _ _ h => h) hS (fun wx hx => R_eqlH hA rfl rfl rfl (eqH t (fixZ t)) (rfl) _) (fun a hA => ?_)
  refine takeF (i := 4) hA 2 rfl rfl (by decide) rfl (by kernel_rfl) (by kernel_rfl) (by kernel_rfl) (fun _ _ _ h => h) hS (fun wx hx => R_asg hA rfl rfl _) (fun a hA => ?_)
  refine wpAnyH_done (by kernel_rfl) ?_ _
  replace HH := HH.below hS
  replace HB := HB.trans (hS.mono HB.size)
  clear hS
  refine then_nrm ?_
  show Code.wp Try.prog _ _ _ _
  refine wp_ret ?_
  exact ret_tmp (j := 2) (by kernel_rfl) hA (by decide) rfl ⟨rfl, HB⟩

def k1 : HS := fixZ hZ

def k2 : HS := writeZ k1 768 18446744073709551615

def k3 : HS := writeZ k2 768 4096

theorem ok_k1 : HOk k1 := ok_fix ok_zero

theorem ok_k2 : HOk k2 := ok_write ok_k1 _ _

theorem ok_k3 : HOk k3 := ok_write ok_k2 _ _

theorem wk_a : (readZ k1 lZ 771 == 5188) = true := by decide +kernel

theorem wk_b : (readZ k3 lZ 768 == 42949679104) = true := by decide +kernel

theorem wk_c : eqH k3 (fixZ k3) = true := by decide +kernel

theorem bld_h0 : Try.prog.built 25 [] = some (varr 77 (hCell hZ)) := by kernel_rfl

theorem fix_k1 (w : World) : Calls Try.prog 17 #[hartV hZ] w fun e w' => e = .returned (hartV k1) ∧ Below w.heap.size w w' := fix_any hZ ok_zero w

theorem legal_k3 (w : World) : Calls Try.prog 18 #[hartV k3] w fun e w' => e = .returned (.bool true) ∧ Below w.heap.size w w' := by
  have := legal_any k3 ok_k3 w
  rw [wk_c] at this; exact this

end Go.Proofs.Ytkfhpmleelmcfaa
