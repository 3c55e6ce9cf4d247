/- The law PlicSame, walked. -/
import Derived.Test.YtgimnkablodheaaDoorPlQuad
namespace Go.Proofs.YtgimnkablodheaaDoor
open Go.RowKit
set_option linter.unusedVariables false

set_option maxRecDepth 100000 in
set_option maxHeartbeats 8000000 in
theorem plicSame_walk (l : Value) (xs : List ActV) (m : Value) (ys : List ActV) (w : World) (hl : ActsIn w.heap.size w l xs) (hm : ActsIn w.heap.size w m ys) (ht : Tab w) :
    Calls Tryd.prog 5 #[l, m] w fun e w' => e = .returned (.bool true) ∧ Below w.heap.size w w' := by
  have HL := Lib.hid hl
  have HM := Lib.hid hm
  have HT := Lib.hid ht
  obtain ⟨al, cl, rfl, hll, _⟩ := hl
  obtain ⟨am, cm, rfl, hlm, _⟩ := hm
  have hll2 : xs.length ≤ 9223372036854775807 := by unfold maxLen at hll; omega
  have hlm2 : ys.length ≤ 9223372036854775807 := by unfold maxLen at hlm; omega
  clear hll hlm ht
  by_cases hx60 : 100 < xs.length
  · have hd : decide ((100 : Int) < (xs.length : Int)) = true := by rw [decide_eq_true_eq]; omega
    go_enter Tryd.func5, Tryd.ntmps5
    go_wp2_with fail
    refine (awake_any _ HT.out).mono ?_
    rintro e w1 ⟨rfl, hb⟩
    have HB := Lib.hid hb
    clear hb
    go_wp2
    go_ret
    exact ⟨rfl, HB.out⟩
  have hd : decide ((100 : Int) < (xs.length : Int)) = false := by rw [decide_eq_false_iff_not]; omega
  clear hx60
  by_cases hy60 : 100 < ys.length
  · have hd2 : decide ((100 : Int) < (ys.length : Int)) = true := by rw [decide_eq_true_eq]; omega
    go_enter Tryd.func5, Tryd.ntmps5
    go_wp2_with fail
    refine (awake_any _ HT.out).mono ?_
    rintro e w1 ⟨rfl, hb⟩
    have HB := Lib.hid hb
    clear hb
    go_wp2
    go_ret
    exact ⟨rfl, HB.out⟩
  have hd2 : decide ((100 : Int) < (ys.length : Int)) = false := by rw [decide_eq_false_iff_not]; omega
  clear hy60
  go_enter Tryd.func5, Tryd.ntmps5
  go_wp2_with fail
  refine (awake_any _ HT.out).mono ?_
  rintro e w1 ⟨rfl, hb⟩
  have HB := Lib.hid hb
  clear hb
  go_wp2_with fail
  refine (new_is _).mono ?_
  rintro e w2 ⟨rfl, hb⟩
  have HB2 := Lib.hid (HB.out.trans (hb.mono HB.out.size))
  clear hb HB
  go_upto_region 6 with (refine wpList_store_row rfl _ _ _ rfl w2.heap.size _ rfl rfl 27 _ (heap_alloc_new w2 _) (info_row _) (rowQ_39 _) (rowQ_one _) ?_)
  try simp only [zerosQ_def]
  have PA := Lib.hid (prog_made w2 zerosQ p0_ok)
  have HB3 := Lib.hid (below_made HB2.out HB2.out.size zerosQ 27 (varr 39 (cellQ p0)))
  have ga := HB2.out.size
  have sa : w2.heap.size < ((w2.alloc (.cells zerosQ 27)).setRow w2.heap.size (varr 39 (cellQ p0))).heap.size := by rw [laid_size]; omega
  generalize (w2.alloc (.cells zerosQ 27)).setRow w2.heap.size (varr 39 (cellQ p0)) = w3 at *
  obtain ⟨a, ha⟩ : ∃ a, w2.heap.size = a := ⟨_, rfl⟩
  rw [ha] at PA ga sa ⊢
  clear ha HB2
  go_upto_region 7 with (first
    | (refine wpList_build_is rfl _ rfl zerosQ built_p0 ?_)
    | (refine wpList_store_row rfl _ _ _ rfl w3.heap.size _ rfl rfl 27 _ (heap_alloc_new w3 _) size_progP rfl zerosQ_one ?_))
  try simp only [zerosQ_def]
  have PB := Lib.hid (prog_madeZ w3 zerosQ)
  replace PA := Lib.hid (PA.out.below (below_made (Below.refl w3.heap.size w3) (Nat.le_refl _) zerosQ 27 zerosQ))
  have HB4 := Lib.hid (below_made HB3.out HB3.out.size zerosQ 27 zerosQ)
  have sb : w3.heap.size < ((w3.alloc (.cells zerosQ 27)).setRow w3.heap.size zerosQ).heap.size := by rw [laid_size]; omega
  generalize (w3.alloc (.cells zerosQ 27)).setRow w3.heap.size zerosQ = w4 at *
  obtain ⟨b, hb⟩ : ∃ b, w3.heap.size = b := ⟨_, rfl⟩
  rw [hb] at PB sa sb ⊢
  clear hb HB3
  have hz45 := zero_ref
  go_upto_region 8 with (first
    | (refine wpList_build_is rfl _ rfl zerosR built_r0 ?_)
    | (refine wpList_store_row rfl _ _ _ rfl w4.heap.size _ rfl rfl 45 _ (heap_alloc_new w4 _) info_zerosR rfl zerosR_one ?_))
  try simp only [zerosR_def]
  have RC := Lib.hid (ref_madeZ w4 zerosR)
  replace PA := Lib.hid (PA.out.below (below_made (Below.refl w4.heap.size w4) (Nat.le_refl _) zerosR 45 zerosR))
  replace PB := Lib.hid (PB.out.below (below_made (Below.refl w4.heap.size w4) (Nat.le_refl _) zerosR 45 zerosR))
  have HB5 := Lib.hid (below_made HB4.out HB4.out.size zerosR 45 zerosR)
  have sc : w4.heap.size < ((w4.alloc (.cells zerosR 45)).setRow w4.heap.size zerosR).heap.size := by rw [laid_size]; omega
  generalize (w4.alloc (.cells zerosR 45)).setRow w4.heap.size zerosR = w5 at *
  obtain ⟨c, hc⟩ : ∃ c, w4.heap.size = c := ⟨_, rfl⟩
  rw [hc] at RC sb sc ⊢
  clear hc HB4
  go_upto_region 9 with (first
    | (refine wpList_build_is rfl _ rfl zerosR built_r0 ?_)
    | (refine wpList_store_row rfl _ _ _ rfl w5.heap.size _ rfl rfl 45 _ (heap_alloc_new w5 _) info_zerosR rfl zerosR_one ?_))
  try simp only [zerosR_def]
  have HF : Hid (Quad w ((w5.alloc (.cells zerosR 45)).setRow w5.heap.size zerosR) a b c w5.heap.size p0 p0) := by
    have k := below_made (Below.refl w5.heap.size w5) (Nat.le_refl _) zerosR 45 zerosR
    exact Lib.hid ⟨below_made HB5.out HB5.out.size _ _ _, HT.out, ga, sa, sb, sc, PA.out.below k, PB.out.below k, RC.out.below k, ref_madeZ w5 zerosR⟩
  clear PA PB RC HB5 ga sa sb sc hz45
  generalize (w5.alloc (.cells zerosR 45)).setRow w5.heap.size zerosR = w6 at *
  obtain ⟨d, hd0⟩ : ∃ d, w5.heap.size = d := ⟨_, rfl⟩
  rw [hd0] at HF ⊢
  clear hd0
  go_wp2
  go_loopw [9] (fun i wr => ∃ k : Nat, k ≤ xs.length ∧ i = .int .i64 k ∧ ∃ t, Quad w wr a b c d t p0) (fun i _ => xs.length - (intOf i).toNat)
  case atStart => exact ⟨0, Nat.zero_le _, rfl, _, HF.out⟩
  case round =>
    obtain ⟨k, hk, rfl, t, hT⟩ := hrel
    have HQ := Lib.hid hT
    have hbr := hT.bel
    clear hT HF
    by_cases hlt : k < xs.length
    · obtain ⟨_, _, hv, _, hx⟩ := HL.out.below hbr
      injection hv with hv1 hv2 hv3
      subst hv1 hv3
      rcases hx with hx | ⟨bb, off, rfl, hbb, hc⟩
      · rw [hx] at hlt; simp at hlt
      obtain ⟨c0, c1, c2, c3, c4, c5, r0, r1, r2, r3, r4⟩ := act_at (hc k hlt)
      have HBOTH := Lib.hid (both_any wr a c t xs[k] HQ.out.pa HQ.out.rc HQ.out.tab (by have := HQ.out.ab; have := HQ.out.bc; omega) (by have := HQ.out.tab0.lt; have := HQ.out.ga; omega) r1 r3)
      clear hc hbr hv2 r0 r1 r2 r3 r4
      unfold actVal at HBOTH
      generalize xs[k] = x at *
      obtain ⟨xd, xa, xn, xv, xs1, xu⟩ := x
      simp only at c0 c1 c2 c3 c4 c5 HBOTH
      go_wp2_with fail
      (with_reducible refine (HBOTH.out).mono ?_)
      rintro e w7 ⟨rfl, ho, hp, hr⟩
      have HQ2 := Lib.hid (HQ.out.one ho hp hr)
      clear ho hp hr c0 c1 c2 c3 c4 c5 HBOTH
      go_wp2
      exact ⟨⟨k + 1, by omega, by go_num, _, HQ2.out⟩, by simp [intOf]; omega⟩
    · obtain rfl : k = xs.length := by omega
      clear hbr
      go_wp2
      go_loopw [10] (fun i wq => ∃ k : Nat, k ≤ ys.length ∧ i = .int .i64 k ∧ ∃ u, Quad w wq a b c d t u) (fun i _ => ys.length - (intOf i).toNat)
      case atStart => exact ⟨0, Nat.zero_le _, rfl, _, HQ.out⟩
      case round =>
        obtain ⟨k, hk, rfl, u, hT⟩ := hrel
        replace HQ := Lib.hid hT
        have hbr := hT.bel
        clear hT
        by_cases hlt : k < ys.length
        · obtain ⟨_, _, hv, _, hx⟩ := HM.out.below hbr
          injection hv with hv1 hv2 hv3
          subst hv1 hv3
          rcases hx with hx | ⟨bb, off, rfl, hbb, hc⟩
          · rw [hx] at hlt; simp at hlt
          obtain ⟨c0, c1, c2, c3, c4, c5, r0, r1, r2, r3, r4⟩ := act_at (hc k hlt)
          have HBOTH := Lib.hid (both_any _ b d u ys[k] HQ.out.pb HQ.out.rd HQ.out.tab (by have := HQ.out.bc; have := HQ.out.cd; omega) (by have := HQ.out.tab0.lt; have := HQ.out.ga; have := HQ.out.ab; omega) r1 r3)
          clear hc hbr hv2 r0 r1 r2 r3 r4
          unfold actVal at HBOTH
          generalize ys[k] = x at *
          obtain ⟨xd, xa, xn, xv, xs1, xu⟩ := x
          simp only at c0 c1 c2 c3 c4 c5 HBOTH
          go_wp2_with fail
          (with_reducible refine (HBOTH.out).mono ?_)
          rintro e w7 ⟨rfl, ho, hp, hr⟩
          have HQ2 := Lib.hid (HQ.out.two ho hp hr)
          clear ho hp hr c0 c1 c2 c3 c4 c5 HBOTH
          go_wp2
          exact ⟨⟨k + 1, by omega, by go_num, _, HQ2.out⟩, by simp [intOf]; omega⟩
        · obtain rfl : k = ys.length := by omega
          clear hbr
          go_wp2_with fail
          refine wp_region_held_drew (S := fun wx => Below wr.heap.size wr wx) (by kernel_rfl) ((Below.refl _ _).drew) (fun hHeld0 => ?_)
          have HS := Lib.hid hHeld0
          clear hHeld0
          refine takeD (i := 0) (some 47) (v := ?_) rfl rfl (by kernel_rfl) (by kernel_rfl) (by kernel_rfl) (fun _ _ _ h => h) (by rfl) HS.out ?_ ?_
          rotate_left
          · intro wx hSx
            exact (by refine yield_row _ (.tmp 5) ?_ a ?_ (run_progRow (HQ.out.pa.below hSx).1 (varr_size _ _)) <;> rfl)
          simp only [Act.put, List.setIfInBounds_toArray, List.set_cons_zero, List.set_cons_succ]
          refine takeD (i := 1) (some 48) (v := ?_) rfl rfl (by kernel_rfl) (by kernel_rfl) (by kernel_rfl) (fun _ _ _ h => h) (by rfl) HS.out ?_ ?_
          rotate_left
          · intro wx hSx
            exact (by refine yield_row _ (.tmp 6) ?_ b ?_ (run_progRow (HQ.out.pb.below hSx).1 (varr_size _ _)) <;> rfl)
          simp only [Act.put, List.setIfInBounds_toArray, List.set_cons_zero, List.set_cons_succ]
          refine takeD (i := 2) (some 49) (v := ?_) rfl rfl (by kernel_rfl) (by kernel_rfl) (by kernel_rfl) (fun _ _ _ h => h) (by rfl) HS.out ?_ ?_
          rotate_left
          · intro wx hSx
            exact (by refine yield_eql 27 27 (.tmp 47) (.tmp 48) ?_ (varr 39 (cellQ t)) (varr 39 (cellQ u)) ?_ ?_ ?_ _ (eql_prog t u wx) <;> first | rfl | kernel_rfl)
          simp only [Act.put, List.setIfInBounds_toArray, List.set_cons_zero, List.set_cons_succ]
          refine takeD (i := 3) (some 50) (v := ?_) rfl rfl (by kernel_rfl) (by kernel_rfl) (by kernel_rfl) (fun _ _ _ h => h) (by rfl) HS.out ?_ ?_
          rotate_left
          · intro wx hSx
            exact (by refine yield_row _ (.tmp 7) ?_ c ?_ (run_refRow (HQ.out.rc.below hSx) (varr_size _ _)) <;> rfl)
          simp only [Act.put, List.setIfInBounds_toArray, List.set_cons_zero, List.set_cons_succ]
          refine takeD (i := 4) (some 51) (v := ?_) rfl rfl (by kernel_rfl) (by kernel_rfl) (by kernel_rfl) (fun _ _ _ h => h) (by rfl) HS.out ?_ ?_
          rotate_left
          · intro wx hSx
            exact (by refine yield_row _ (.tmp 8) ?_ d ?_ (run_refRow (HQ.out.rd.below hSx) (varr_size _ _)) <;> rfl)
          simp only [Act.put, List.setIfInBounds_toArray, List.set_cons_zero, List.set_cons_succ]
          refine takeD (i := 5) (some 52) (v := ?_) rfl rfl (by kernel_rfl) (by kernel_rfl) (by kernel_rfl) (fun _ _ _ h => h) (by rfl) HS.out ?_ ?_
          rotate_left
          · intro wx hSx
            exact (by refine yield_eql 45 45 (.tmp 50) (.tmp 51) ?_ (varr 194 (cellR t)) (varr 194 (cellR u)) ?_ ?_ ?_ _ (eql_ref t u wx) <;> first | rfl | kernel_rfl)
          simp only [Act.put, List.setIfInBounds_toArray, List.set_cons_zero, List.set_cons_succ]
          refine takeD (i := 6) (some 53) (v := ?_) rfl rfl (by kernel_rfl) (by kernel_rfl) (by kernel_rfl) (fun _ _ _ h => h) (by rfl) HS.out ?_ ?_
          rotate_left
          · intro wx hSx
            clear hSx
            go_simp
            try (with_reducible rfl)
          simp only [Act.put, List.setIfInBounds_toArray, List.set_cons_zero, List.set_cons_succ]
          refine takeD (i := 7) (some 4) (v := ?_) rfl rfl (by kernel_rfl) (by kernel_rfl) (by kernel_rfl) (fun _ _ _ h => h) (by rfl) HS.out ?_ ?_
          rotate_left
          · intro wx hSx
            clear hSx
            go_simp
            try (with_reducible rfl)
          simp only [Act.put, List.setIfInBounds_toArray, List.set_cons_zero, List.set_cons_succ]
          refine wpAnyH_done (by kernel_rfl) ?_ _
          go_wp2
          go_ret
          exact ⟨by rw [eq_both]; simp, HQ.out.bel.trans (HS.out.mono HQ.out.bel.size)⟩

end Go.Proofs.YtgimnkablodheaaDoor
