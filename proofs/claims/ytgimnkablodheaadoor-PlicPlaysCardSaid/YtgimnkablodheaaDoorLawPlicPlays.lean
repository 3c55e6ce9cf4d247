/- The law PlicPlays, walked. -/
import Derived.Test.YtgimnkablodheaaDoorPlPair
namespace Go.Proofs.YtgimnkablodheaaDoor
open Go.RowKit
set_option linter.unusedVariables false

set_option maxRecDepth 100000 in
set_option maxHeartbeats 8000000 in
theorem plicPlays_walk (l : Value) (xs : List ActV) (source ctx : Int) (w : World) (hl : ActsIn w.heap.size w l xs) (hs63 : In63 source) (hc63 : In63 ctx) (ht : Tab w) :
    Calls Tryd.prog 4 #[l, .int .i64 source, .int .i64 ctx] w fun e w' => e = .returned (.bool true) ∧ Below w.heap.size w w' := by
  have HL := Lib.hid hl
  have HT := Lib.hid ht
  obtain ⟨al, cl, rfl, hll, _⟩ := hl
  have hll2 : xs.length ≤ 9223372036854775807 := by unfold maxLen at hll; omega
  clear hll ht hs63 hc63
  by_cases hx60 : 200 < xs.length
  · have hd : decide ((200 : Int) < (xs.length : Int)) = true := by rw [decide_eq_true_eq]; omega
    go_enter Tryd.func4, Tryd.ntmps4
    go_wp2_with fail
    refine (awake_any _ HT.out).mono ?_
    rintro e w1 ⟨rfl, hb⟩
    have HB := Lib.hid hb
    clear hb
    go_wp2
    go_ret
    exact ⟨rfl, HB.out⟩
  have hd : decide ((200 : Int) < (xs.length : Int)) = false := by rw [decide_eq_false_iff_not]; omega
  clear hx60
  go_enter Tryd.func4, Tryd.ntmps4
  go_wp2_with fail
  refine (awake_any _ HT.out).mono ?_
  rintro e w1 ⟨rfl, hb⟩
  have HB := Lib.hid hb
  clear hb
  go_wp2_with fail
  refine (new_is _).mono ?_
  rintro e w2 ⟨rfl, hb⟩
  have HB2 := Lib.hid (HB.out.trans (hb.mono HB.out.size))
  clear hb HB
  go_upto_region 6 with (refine wpList_store_row rfl _ _ _ rfl w2.heap.size _ rfl rfl 27 _ (heap_alloc_new w2 _) (info_row _) (rowQ_39 _) (rowQ_one _) ?_)
  simp only [zerosQ_def]
  have PA := Lib.hid (prog_made w2 zerosQ p0_ok)
  have HB3 := Lib.hid (below_made HB2.out HB2.out.size zerosQ 27 (varr 39 (cellQ p0)))
  have gc := HB2.out.size
  have sc : w2.heap.size < ((w2.alloc (.cells zerosQ 27)).setRow w2.heap.size (varr 39 (cellQ p0))).heap.size := by rw [laid_size]; omega
  generalize (w2.alloc (.cells zerosQ 27)).setRow w2.heap.size (varr 39 (cellQ p0)) = w3 at *
  obtain ⟨c, hc⟩ : ∃ c, w2.heap.size = c := ⟨_, rfl⟩
  rw [hc] at PA gc sc ⊢
  clear hc HB2
  have hz45 := zero_ref
  go_upto_region 7 with (first
    | (refine wpList_build_is rfl _ rfl zerosR built_r0 ?_)
    | (refine wpList_store_row rfl _ _ _ rfl w3.heap.size _ rfl rfl 45 _ (heap_alloc_new w3 _) info_zerosR rfl zerosR_one ?_))
  clear hz45
  have HF : Hid (Pair w ((w3.alloc (.cells zerosR 45)).setRow w3.heap.size zerosR) c w3.heap.size p0) := by
    have k := below_made (Below.refl w3.heap.size w3) (Nat.le_refl _) zerosR 45 zerosR
    exact Lib.hid ⟨below_made HB3.out HB3.out.size _ _ _, HT.out, gc, sc, PA.out.below k, ref_madeZ w3 zerosR⟩
  clear PA HB3 gc sc
  generalize (w3.alloc (.cells zerosR 45)).setRow w3.heap.size zerosR = w4 at *
  obtain ⟨d, hd0⟩ : ∃ d, w3.heap.size = d := ⟨_, rfl⟩
  rw [hd0] at HF ⊢
  clear hd0
  go_wp2
  go_loopw [9] (fun i wr => ∃ k : Nat, k ≤ xs.length ∧ i = .int .i64 k ∧ ∃ t, Pair w wr c d t) (fun i _ => xs.length - (intOf i).toNat)
  case atStart => exact ⟨0, Nat.zero_le _, rfl, _, HF.out⟩
  case round =>
    obtain ⟨k, hk, rfl, t, hT⟩ := hrel
    have HP := Lib.hid hT
    have hbr := hT.bel
    clear hT HF
    by_cases hlt : k < xs.length
    · obtain ⟨_, _, hv, _, hx⟩ := HL.out.below hbr
      injection hv with hv1 hv2 hv3
      subst hv1 hv3
      rcases hx with hx | ⟨bb, off, rfl, hbb, hc⟩
      · rw [hx] at hlt; simp at hlt
      have HACT : Hid (∀ wx, Below w.heap.size wr wx → ActAt wx ⟨bb, off + k * 6, none⟩ xs[k]) := Lib.hid fun wx hb => (hc k hlt).below hb hbb
      clear hc hbr hv2
      generalize xs[k] = x at *
      obtain ⟨c0, c1, c2, c3, c4, c5, r0, r1, r2, r3, r4⟩ := act_at (HACT.out wr (Below.refl _ _))
      have R1 := Lib.hid r1
      have R3 := Lib.hid r3
      clear r0 r1 r2 r3 r4
      obtain ⟨xd, xa, xn, xv, xs1, xu⟩ := x
      simp only at c0 c1 c2 c3 c4 c5
      have HC4 : Hid (wr.cell? ⟨bb, off + k * 6 + 4, none⟩ = some (.int .i64 xs1) ∧ wr.cell? ⟨bb, off + k * 6 + 5, none⟩ = some (.bool xu)) := Lib.hid ⟨c4, c5⟩
      go_upto_if 30 with (fail)
      go_cut [] from 19 to 70 (fun wx => Pair w wx c d t ∧ Below w.heap.size wr wx)
      case first =>
        by_cases hd3 : xd = 3
        · subst hd3
          clear c1 c2 c3 c4 c5
          go_upto_region 12 with (first
            | (refine wpList_load_row rfl _ _ rfl c rfl 27 _ _ _ HP.out.pc.1 Tryd.underlying27 rfl (info_row _) ?_)
            | (refine wpList_store_row rfl _ _ _ rfl wr.heap.size _ rfl rfl 27 _ (heap_alloc_new wr _) (info_row _) (rowQ_39 _) (rowQ_one _) ?_))
          simp only [zerosQ_def]
          have HO := Lib.hid (OwnQ.made (w0 := wr) (Below.refl _ _) HP.out.tab zerosQ HP.out.ok)
          have sb : wr.heap.size < ((wr.alloc (.cells zerosQ 27)).setRow wr.heap.size (varr 39 (cellQ t))).heap.size := by rw [laid_size]; omega
          generalize (wr.alloc (.cells zerosQ 27)).setRow wr.heap.size (varr 39 (cellQ t)) = w5 at *
          obtain ⟨b, hb0⟩ : ∃ b, wr.heap.size = b := ⟨_, rfl⟩
          have HB0 := Lib.hid hb0
          rw [hb0] at HO sb ⊢
          clear hb0
          go_wp2_with fail
          (with_reducible refine (read_any w5 b t HO.out.pc HO.out.tab 2097156 4 (by unfold In64; decide)).mono ?_)
          rintro e w6 ⟨rfl, ho, hp⟩
          replace HO := Lib.hid (HO.out.turn ho hp)
          clear ho hp
          generalize rdT t (plcK 2097156 4) = t1 at *
          go_wp2_with fail
          (with_reducible refine (read_any w6 b t1 HO.out.pc HO.out.tab 2101252 4 (by unfold In64; decide)).mono ?_)
          rintro e w7 ⟨rfl, ho, hp⟩
          replace HO := Lib.hid (HO.out.turn ho hp)
          clear ho hp
          generalize rdT t1 (plcK 2101252 4) = t2 at *
          have hbb2 : bb < wr.heap.size := block_lt c0
          have d4 := (HO.out.bel.cell (p := ⟨bb, off + k * 6 + 4, none⟩) hbb2).trans HC4.out.1
          have d5 := (HO.out.bel.cell (p := ⟨bb, off + k * 6 + 5, none⟩) hbb2).trans HC4.out.2
          clear c0
          go_wp2_with fail
          go_still_tail 10, (by kernel_rfl)
          change wpList _ _ _ _ _ w7.drew
          have HO2 : Hid (OwnQ wr w7.drew b t2) := Lib.hid (HO.out.below (Below.refl _ _).drew)
          clear HO d4 d5
          generalize w7.drew = w8 at *
          go_wp2_with fail
          (with_reducible refine (level_any w8 b t2 xs1 xu HO2.out.pc).mono ?_)
          rintro e w9 ⟨rfl, ho, hp⟩
          have HO3 := Lib.hid (HO2.out.turn ho hp)
          clear ho hp
          go_wp2
          go_meet
          exact ⟨HP.out.below HO3.out.bel, HO3.out.bel.mono HP.out.bel.size⟩
        · have e3 := neB hd3
          clear hd3 c1 c2 c3 c4 c5
          go_wp2
          go_meet
          exact ⟨HP.out, Below.refl _ _⟩
      case rest =>
        obtain ⟨hPc, hBc⟩ := hcut
        obtain ⟨c0, c1, c2, c3, c4, c5, _⟩ := act_at (HACT.out wc hBc)
        simp only at c0 c1 c2 c3 c4 c5
        have HPC := Lib.hid hPc
        have HBC := Lib.hid hBc
        have HBOTH := Lib.hid (both_any wc c d t ⟨xd, xa, xn, xv, xs1, xu⟩ hPc.pc hPc.rd hPc.tab (by have := hPc.cd; omega) (by have := hPc.tab0.lt; have := hPc.gc; omega) R1.out R3.out)
        clear hPc hBc
        unfold actVal at HBOTH
        simp only at HBOTH
        go_wp2_with fail
        (with_reducible refine (HBOTH.out).mono ?_)
        rintro e w7 ⟨rfl, ho, hp, hr⟩
        have HP7 := Lib.hid (HPC.out.turn ho hp hr)
        clear ho hp hr c0 c1 c2 c3 c4 c5 HBOTH HPC HP HACT HC4
        generalize actT t ⟨xd, xa, xn, xv, xs1, xu⟩ = t2 at *
        go_wp2
        go_loopw [11] (fun i wy => ∃ j : Nat, j ≤ 4 ∧ i = .int .i64 ((j : Int) - 1) ∧ Pair w wy c d t2) (fun i _ => (3 - intOf i).toNat)
        case atStart => exact ⟨0, by omega, rfl, HP7.out⟩
        case round =>
          obtain ⟨j, hj, rfl, hT⟩ := hrel
          have HP := Lib.hid hT
          have HOK := Lib.hid hT.ok
          clear hT
          by_cases hj4 : j < 4
          · have hj5 : (j : Int) - 1 < 3 := by omega
            have hj6 : -1 ≤ (j : Int) - 1 := by omega
            obtain ⟨cc, hcc⟩ : ∃ cc : Int, (j : Int) - 1 = cc := ⟨_, rfl⟩
            rw [hcc] at hj5 hj6 ⊢
            have HCC := Lib.hid hcc
            clear hcc
            go_wp2_with fail
            refine wp_region_held_drew (S := fun wx => Below wr.heap.size wr wx) (by kernel_rfl) ((Below.refl _ _).drew) (fun hHeld0 => ?_)
            have HS := Lib.hid hHeld0
            clear hHeld0
            refine takeD (i := 0) (some 55) (v := ?_) rfl rfl (by kernel_rfl) (by kernel_rfl) (by kernel_rfl) (fun _ _ _ h => h) (by rfl) HS.out ?_ ?_
            rotate_left
            · intro wx hSx
              exact (by refine yield_row _ (.tmp 7) ?_ c ?_ (run_progRow (HP.out.pc.below hSx).1 (varr_size _ _)) <;> rfl)
            simp only [Act.put, List.setIfInBounds_toArray, List.set_cons_zero, List.set_cons_succ]
            refine takeD (i := 1) (some 56) (v := ?_) rfl rfl (by kernel_rfl) (by kernel_rfl) (by kernel_rfl) (fun _ _ _ h => h) (by rfl) HS.out ?_ ?_
            rotate_left
            · intro wx hSx
              clear hSx
              go_simp
              try (with_reducible rfl)
            simp only [Act.put, List.setIfInBounds_toArray, List.set_cons_zero, List.set_cons_succ]
            refine takeD (i := 3) (some 58) (v := ?_) rfl rfl (by kernel_rfl) (by kernel_rfl) (by kernel_rfl) (fun _ _ _ h => h) (by rfl) HS.out ?_ ?_
            rotate_left
            · intro wx hSx
              exact (by refine yield_row _ (.tmp 8) ?_ d ?_ (run_refRow (HP.out.rd.below hSx) (varr_size _ _)) <;> rfl)
            simp only [Act.put, List.setIfInBounds_toArray, List.set_cons_zero, List.set_cons_succ]
            refine takeD (i := 4) (some 59) (v := ?_) rfl rfl (by kernel_rfl) (by kernel_rfl) (by kernel_rfl) (fun _ _ _ h => h) (by rfl) HS.out ?_ ?_
            rotate_left
            · intro wx hSx
              clear hSx
              go_simp
              try (with_reducible rfl)
            simp only [Act.put, List.setIfInBounds_toArray, List.set_cons_zero, List.set_cons_succ]
            refine wpAnyH_ready (rs := [2]) (by kernel_rfl) (by simp) ?_
            refine AllReadyH.cons rfl (fun K hK => ?_) AllReadyH.nil
            go_simp
            (with_reducible refine (best_is _ t2 HOK.out cc _ rfl).mono ?_)
            rintro e wk1 ⟨rfl, hb⟩
            have HSK1 : Hid (Below wr.heap.size wr wk1) := Lib.hid (HS.out.trans (hb.mono HS.out.size))
            clear hb
            go_simp
            refine hK.out _ _ ?_ (fun hHeld => ?_)
            · exact HSK1.out
            clear hHeld hK K
            try simp only [Act.put, List.setIfInBounds_toArray, List.set_cons_zero, List.set_cons_succ]
            replace HS := HSK1
            refine wpAnyH_ready (rs := [5]) (by kernel_rfl) (by simp) ?_
            refine AllReadyH.cons rfl (fun K hK => ?_) AllReadyH.nil
            go_simp
            (with_reducible refine (refBest_is _ t2 cc).mono ?_)
            rintro e wk2 ⟨rfl, hb⟩
            have HSK2 : Hid (Below wr.heap.size wr wk2) := Lib.hid (HS.out.trans (hb.mono HS.out.size))
            clear hb
            go_simp
            refine hK.out _ _ ?_ (fun hHeld => ?_)
            · exact HSK2.out
            clear hHeld hK K
            try simp only [Act.put, List.setIfInBounds_toArray, List.set_cons_zero, List.set_cons_succ]
            replace HS := HSK2
            refine takeD (i := 6) (some 61) (v := ?_) rfl rfl (by kernel_rfl) (by kernel_rfl) (by kernel_rfl) (fun _ _ _ h => h) (by rfl) HS.out ?_ ?_
            rotate_left
            · intro wx hSx
              clear hSx
              go_simp
              try (with_reducible rfl)
            simp only [Act.put, List.setIfInBounds_toArray, List.set_cons_zero, List.set_cons_succ]
            refine takeD (i := 7) (some 62) (v := ?_) rfl rfl (by kernel_rfl) (by kernel_rfl) (by kernel_rfl) (fun _ _ _ h => h) (by rfl) HS.out ?_ ?_
            rotate_left
            · intro wx hSx
              clear hSx
              go_simp
              try (with_reducible rfl)
            simp only [Act.put, List.setIfInBounds_toArray, List.set_cons_zero, List.set_cons_succ]
            refine takeD (i := 8) (some 63) (v := ?_) rfl rfl (by kernel_rfl) (by kernel_rfl) (by kernel_rfl) (fun _ _ _ h => h) (by rfl) HS.out ?_ ?_
            rotate_left
            · intro wx hSx
              exact (by refine yield_row _ (.tmp 7) ?_ c ?_ (run_progRow (HP.out.pc.below hSx).1 (varr_size _ _)) <;> rfl)
            simp only [Act.put, List.setIfInBounds_toArray, List.set_cons_zero, List.set_cons_succ]
            refine takeD (i := 9) (some 64) (v := ?_) rfl rfl (by kernel_rfl) (by kernel_rfl) (by kernel_rfl) (fun _ _ _ h => h) (by rfl) HS.out ?_ ?_
            rotate_left
            · intro wx hSx
              clear hSx
              go_simp
              try (with_reducible rfl)
            simp only [Act.put, List.setIfInBounds_toArray, List.set_cons_zero, List.set_cons_succ]
            refine takeD (i := 11) (some 66) (v := ?_) rfl rfl (by kernel_rfl) (by kernel_rfl) (by kernel_rfl) (fun _ _ _ h => h) (by rfl) HS.out ?_ ?_
            rotate_left
            · intro wx hSx
              exact (by refine yield_row _ (.tmp 8) ?_ d ?_ (run_refRow (HP.out.rd.below hSx) (varr_size _ _)) <;> rfl)
            simp only [Act.put, List.setIfInBounds_toArray, List.set_cons_zero, List.set_cons_succ]
            refine takeD (i := 12) (some 67) (v := ?_) rfl rfl (by kernel_rfl) (by kernel_rfl) (by kernel_rfl) (fun _ _ _ h => h) (by rfl) HS.out ?_ ?_
            rotate_left
            · intro wx hSx
              clear hSx
              go_simp
              try (with_reducible rfl)
            simp only [Act.put, List.setIfInBounds_toArray, List.set_cons_zero, List.set_cons_succ]
            refine wpAnyH_ready (rs := [10]) (by kernel_rfl) (by simp) ?_
            refine AllReadyH.cons rfl (fun K hK => ?_) AllReadyH.nil
            go_simp
            (with_reducible refine (line_is _ t2 HOK.out cc _ rfl).mono ?_)
            rintro e wk3 ⟨rfl, hb⟩
            have HSK3 : Hid (Below wr.heap.size wr wk3) := Lib.hid (HS.out.trans (hb.mono HS.out.size))
            clear hb
            go_simp
            refine hK.out _ _ ?_ (fun hHeld => ?_)
            · exact HSK3.out
            clear hHeld hK K
            try simp only [Act.put, List.setIfInBounds_toArray, List.set_cons_zero, List.set_cons_succ]
            replace HS := HSK3
            refine wpAnyH_ready (rs := [13]) (by kernel_rfl) (by simp) ?_
            refine AllReadyH.cons rfl (fun K hK => ?_) AllReadyH.nil
            go_simp
            (with_reducible refine (refLine_is _ t2 cc).mono ?_)
            rintro e wk4 ⟨rfl, hb⟩
            have HSK4 : Hid (Below wr.heap.size wr wk4) := Lib.hid (HS.out.trans (hb.mono HS.out.size))
            clear hb
            go_simp
            refine hK.out _ _ ?_ (fun hHeld => ?_)
            · exact HSK4.out
            clear hHeld hK K
            try simp only [Act.put, List.setIfInBounds_toArray, List.set_cons_zero, List.set_cons_succ]
            replace HS := HSK4
            refine takeD (i := 14) (some 69) (v := ?_) rfl rfl (by kernel_rfl) (by kernel_rfl) (by kernel_rfl) (fun _ _ _ h => h) (by rfl) HS.out ?_ ?_
            rotate_left
            · intro wx hSx
              clear hSx
              go_simp
              try (with_reducible rfl)
            simp only [Act.put, List.setIfInBounds_toArray, List.set_cons_zero, List.set_cons_succ]
            refine takeD (i := 15) (some 70) (v := ?_) rfl rfl (by kernel_rfl) (by kernel_rfl) (by kernel_rfl) (fun _ _ _ h => h) (by rfl) HS.out ?_ ?_
            rotate_left
            · intro wx hSx
              clear hSx
              go_simp
              try (with_reducible rfl)
            simp only [Act.put, List.setIfInBounds_toArray, List.set_cons_zero, List.set_cons_succ]
            refine wpAnyH_done (by kernel_rfl) ?_ _
            go_wp2
            exact ⟨⟨j + 1, by omega, by have := HCC.out; rw [← this]; go_num, HP.out.below HS.out⟩, by have := HCC.out; simp [intOf]; omega⟩
          · obtain rfl : j = 4 := by omega
            go_wp2
            exact ⟨⟨k + 1, by omega, by go_num, _, HP.out⟩, by simp [intOf]; omega⟩
    · obtain rfl : k = xs.length := by omega
      have HOK := Lib.hid HP.out.ok
      clear hbr
      go_wp2_with fail
      refine wp_region_held_drew (S := fun wx => Below wr.heap.size wr wx) (by kernel_rfl) ((Below.refl _ _).drew) (fun hHeld0 => ?_)
      have HS := Lib.hid hHeld0
      clear hHeld0
      refine takeD (i := 0) (some 71) (v := ?_) rfl rfl (by kernel_rfl) (by kernel_rfl) (by kernel_rfl) (fun _ _ _ h => h) (by rfl) HS.out ?_ ?_
      rotate_left
      · intro wx hSx
        exact (by refine yield_row _ (.tmp 7) ?_ c ?_ (run_progRow (HP.out.pc.below hSx).1 (varr_size _ _)) <;> rfl)
      simp only [Act.put, List.setIfInBounds_toArray, List.set_cons_zero, List.set_cons_succ]
      refine takeD (i := 1) (some 72) (v := ?_) rfl rfl (by kernel_rfl) (by kernel_rfl) (by kernel_rfl) (fun _ _ _ h => h) (by rfl) HS.out ?_ ?_
      rotate_left
      · intro wx hSx
        clear hSx
        go_simp
        try (with_reducible rfl)
      simp only [Act.put, List.setIfInBounds_toArray, List.set_cons_zero, List.set_cons_succ]
      refine takeD (i := 3) (some 74) (v := ?_) rfl rfl (by kernel_rfl) (by kernel_rfl) (by kernel_rfl) (fun _ _ _ h => h) (by rfl) HS.out ?_ ?_
      rotate_left
      · intro wx hSx
        exact (by refine yield_row _ (.tmp 8) ?_ d ?_ (run_refRow (HP.out.rd.below hSx) (varr_size _ _)) <;> rfl)
      simp only [Act.put, List.setIfInBounds_toArray, List.set_cons_zero, List.set_cons_succ]
      refine takeD (i := 4) (some 75) (v := ?_) rfl rfl (by kernel_rfl) (by kernel_rfl) (by kernel_rfl) (fun _ _ _ h => h) (by rfl) HS.out ?_ ?_
      rotate_left
      · intro wx hSx
        clear hSx
        go_simp
        try (with_reducible rfl)
      simp only [Act.put, List.setIfInBounds_toArray, List.set_cons_zero, List.set_cons_succ]
      refine wpAnyH_ready (rs := [2]) (by kernel_rfl) (by simp) ?_
      refine AllReadyH.cons rfl (fun K hK => ?_) AllReadyH.nil
      go_simp
      (with_reducible refine (up_is _ t HOK.out source _ rfl).mono ?_)
      rintro e wk5 ⟨rfl, hb⟩
      have HSK5 : Hid (Below wr.heap.size wr wk5) := Lib.hid (HS.out.trans (hb.mono HS.out.size))
      clear hb
      go_simp
      refine hK.out _ _ ?_ (fun hHeld => ?_)
      · exact HSK5.out
      clear hHeld hK K
      try simp only [Act.put, List.setIfInBounds_toArray, List.set_cons_zero, List.set_cons_succ]
      replace HS := HSK5
      refine wpAnyH_ready (rs := [5]) (by kernel_rfl) (by simp) ?_
      refine AllReadyH.cons rfl (fun K hK => ?_) AllReadyH.nil
      go_simp
      (with_reducible refine (refUp_is _ t source).mono ?_)
      rintro e wk6 ⟨rfl, hb⟩
      have HSK6 : Hid (Below wr.heap.size wr wk6) := Lib.hid (HS.out.trans (hb.mono HS.out.size))
      clear hb
      go_simp
      refine hK.out _ _ ?_ (fun hHeld => ?_)
      · exact HSK6.out
      clear hHeld hK K
      try simp only [Act.put, List.setIfInBounds_toArray, List.set_cons_zero, List.set_cons_succ]
      replace HS := HSK6
      refine takeD (i := 6) (some 77) (v := ?_) rfl rfl (by kernel_rfl) (by kernel_rfl) (by kernel_rfl) (fun _ _ _ h => h) (by rfl) HS.out ?_ ?_
      rotate_left
      · intro wx hSx
        clear hSx
        go_simp
        try (with_reducible rfl)
      simp only [Act.put, List.setIfInBounds_toArray, List.set_cons_zero, List.set_cons_succ]
      refine takeD (i := 7) (some 78) (v := ?_) rfl rfl (by kernel_rfl) (by kernel_rfl) (by kernel_rfl) (fun _ _ _ h => h) (by rfl) HS.out ?_ ?_
      rotate_left
      · intro wx hSx
        clear hSx
        go_simp
        try (with_reducible rfl)
      simp only [Act.put, List.setIfInBounds_toArray, List.set_cons_zero, List.set_cons_succ]
      refine takeD (i := 8) (some 79) (v := ?_) rfl rfl (by kernel_rfl) (by kernel_rfl) (by kernel_rfl) (fun _ _ _ h => h) (by rfl) HS.out ?_ ?_
      rotate_left
      · intro wx hSx
        exact (by refine yield_row _ (.tmp 7) ?_ c ?_ (run_progRow (HP.out.pc.below hSx).1 (varr_size _ _)) <;> rfl)
      simp only [Act.put, List.setIfInBounds_toArray, List.set_cons_zero, List.set_cons_succ]
      refine takeD (i := 9) (some 80) (v := ?_) rfl rfl (by kernel_rfl) (by kernel_rfl) (by kernel_rfl) (fun _ _ _ h => h) (by rfl) HS.out ?_ ?_
      rotate_left
      · intro wx hSx
        clear hSx
        go_simp
        try (with_reducible rfl)
      simp only [Act.put, List.setIfInBounds_toArray, List.set_cons_zero, List.set_cons_succ]
      refine takeD (i := 11) (some 82) (v := ?_) rfl rfl (by kernel_rfl) (by kernel_rfl) (by kernel_rfl) (fun _ _ _ h => h) (by rfl) HS.out ?_ ?_
      rotate_left
      · intro wx hSx
        exact (by refine yield_row _ (.tmp 8) ?_ d ?_ (run_refRow (HP.out.rd.below hSx) (varr_size _ _)) <;> rfl)
      simp only [Act.put, List.setIfInBounds_toArray, List.set_cons_zero, List.set_cons_succ]
      refine takeD (i := 12) (some 83) (v := ?_) rfl rfl (by kernel_rfl) (by kernel_rfl) (by kernel_rfl) (fun _ _ _ h => h) (by rfl) HS.out ?_ ?_
      rotate_left
      · intro wx hSx
        clear hSx
        go_simp
        try (with_reducible rfl)
      simp only [Act.put, List.setIfInBounds_toArray, List.set_cons_zero, List.set_cons_succ]
      refine wpAnyH_ready (rs := [10]) (by kernel_rfl) (by simp) ?_
      refine AllReadyH.cons rfl (fun K hK => ?_) AllReadyH.nil
      go_simp
      (with_reducible refine (best_is _ t HOK.out ctx _ rfl).mono ?_)
      rintro e wk7 ⟨rfl, hb⟩
      have HSK7 : Hid (Below wr.heap.size wr wk7) := Lib.hid (HS.out.trans (hb.mono HS.out.size))
      clear hb
      go_simp
      refine hK.out _ _ ?_ (fun hHeld => ?_)
      · exact HSK7.out
      clear hHeld hK K
      try simp only [Act.put, List.setIfInBounds_toArray, List.set_cons_zero, List.set_cons_succ]
      replace HS := HSK7
      refine wpAnyH_ready (rs := [13]) (by kernel_rfl) (by simp) ?_
      refine AllReadyH.cons rfl (fun K hK => ?_) AllReadyH.nil
      go_simp
      (with_reducible refine (refBest_is _ t ctx).mono ?_)
      rintro e wk8 ⟨rfl, hb⟩
      have HSK8 : Hid (Below wr.heap.size wr wk8) := Lib.hid (HS.out.trans (hb.mono HS.out.size))
      clear hb
      go_simp
      refine hK.out _ _ ?_ (fun hHeld => ?_)
      · exact HSK8.out
      clear hHeld hK K
      try simp only [Act.put, List.setIfInBounds_toArray, List.set_cons_zero, List.set_cons_succ]
      replace HS := HSK8
      refine takeD (i := 14) (some 85) (v := ?_) rfl rfl (by kernel_rfl) (by kernel_rfl) (by kernel_rfl) (fun _ _ _ h => h) (by rfl) HS.out ?_ ?_
      rotate_left
      · intro wx hSx
        clear hSx
        go_simp
        try (with_reducible rfl)
      simp only [Act.put, List.setIfInBounds_toArray, List.set_cons_zero, List.set_cons_succ]
      refine takeD (i := 15) (some 86) (v := ?_) rfl rfl (by kernel_rfl) (by kernel_rfl) (by kernel_rfl) (fun _ _ _ h => h) (by rfl) HS.out ?_ ?_
      rotate_left
      · intro wx hSx
        clear hSx
        go_simp
        try (with_reducible rfl)
      simp only [Act.put, List.setIfInBounds_toArray, List.set_cons_zero, List.set_cons_succ]
      refine takeD (i := 16) (some 87) (v := ?_) rfl rfl (by kernel_rfl) (by kernel_rfl) (by kernel_rfl) (fun _ _ _ h => h) (by rfl) HS.out ?_ ?_
      rotate_left
      · intro wx hSx
        clear hSx
        go_simp
        try (with_reducible rfl)
      simp only [Act.put, List.setIfInBounds_toArray, List.set_cons_zero, List.set_cons_succ]
      refine takeD (i := 17) (some 88) (v := ?_) rfl rfl (by kernel_rfl) (by kernel_rfl) (by kernel_rfl) (fun _ _ _ h => h) (by rfl) HS.out ?_ ?_
      rotate_left
      · intro wx hSx
        exact (by refine yield_row _ (.tmp 7) ?_ c ?_ (run_progRow (HP.out.pc.below hSx).1 (varr_size _ _)) <;> rfl)
      simp only [Act.put, List.setIfInBounds_toArray, List.set_cons_zero, List.set_cons_succ]
      refine takeD (i := 18) (some 89) (v := ?_) rfl rfl (by kernel_rfl) (by kernel_rfl) (by kernel_rfl) (fun _ _ _ h => h) (by rfl) HS.out ?_ ?_
      rotate_left
      · intro wx hSx
        clear hSx
        go_simp
        try (with_reducible rfl)
      simp only [Act.put, List.setIfInBounds_toArray, List.set_cons_zero, List.set_cons_succ]
      refine takeD (i := 20) (some 91) (v := ?_) rfl rfl (by kernel_rfl) (by kernel_rfl) (by kernel_rfl) (fun _ _ _ h => h) (by rfl) HS.out ?_ ?_
      rotate_left
      · intro wx hSx
        exact (by refine yield_row _ (.tmp 8) ?_ d ?_ (run_refRow (HP.out.rd.below hSx) (varr_size _ _)) <;> rfl)
      simp only [Act.put, List.setIfInBounds_toArray, List.set_cons_zero, List.set_cons_succ]
      refine takeD (i := 21) (some 92) (v := ?_) rfl rfl (by kernel_rfl) (by kernel_rfl) (by kernel_rfl) (fun _ _ _ h => h) (by rfl) HS.out ?_ ?_
      rotate_left
      · intro wx hSx
        clear hSx
        go_simp
        try (with_reducible rfl)
      simp only [Act.put, List.setIfInBounds_toArray, List.set_cons_zero, List.set_cons_succ]
      refine wpAnyH_ready (rs := [19]) (by kernel_rfl) (by simp) ?_
      refine AllReadyH.cons rfl (fun K hK => ?_) AllReadyH.nil
      go_simp
      (with_reducible refine (line_is _ t HOK.out ctx _ rfl).mono ?_)
      rintro e wk9 ⟨rfl, hb⟩
      have HSK9 : Hid (Below wr.heap.size wr wk9) := Lib.hid (HS.out.trans (hb.mono HS.out.size))
      clear hb
      go_simp
      refine hK.out _ _ ?_ (fun hHeld => ?_)
      · exact HSK9.out
      clear hHeld hK K
      try simp only [Act.put, List.setIfInBounds_toArray, List.set_cons_zero, List.set_cons_succ]
      replace HS := HSK9
      refine wpAnyH_ready (rs := [22]) (by kernel_rfl) (by simp) ?_
      refine AllReadyH.cons rfl (fun K hK => ?_) AllReadyH.nil
      go_simp
      (with_reducible refine (refLine_is _ t ctx).mono ?_)
      rintro e wk10 ⟨rfl, hb⟩
      have HSK10 : Hid (Below wr.heap.size wr wk10) := Lib.hid (HS.out.trans (hb.mono HS.out.size))
      clear hb
      go_simp
      refine hK.out _ _ ?_ (fun hHeld => ?_)
      · exact HSK10.out
      clear hHeld hK K
      try simp only [Act.put, List.setIfInBounds_toArray, List.set_cons_zero, List.set_cons_succ]
      replace HS := HSK10
      refine takeD (i := 23) (some 94) (v := ?_) rfl rfl (by kernel_rfl) (by kernel_rfl) (by kernel_rfl) (fun _ _ _ h => h) (by rfl) HS.out ?_ ?_
      rotate_left
      · intro wx hSx
        clear hSx
        go_simp
        try (with_reducible rfl)
      simp only [Act.put, List.setIfInBounds_toArray, List.set_cons_zero, List.set_cons_succ]
      refine takeD (i := 24) (some 95) (v := ?_) rfl rfl (by kernel_rfl) (by kernel_rfl) (by kernel_rfl) (fun _ _ _ h => h) (by rfl) HS.out ?_ ?_
      rotate_left
      · intro wx hSx
        clear hSx
        go_simp
        try (with_reducible rfl)
      simp only [Act.put, List.setIfInBounds_toArray, List.set_cons_zero, List.set_cons_succ]
      refine takeD (i := 25) (some 6) (v := ?_) rfl rfl (by kernel_rfl) (by kernel_rfl) (by kernel_rfl) (fun _ _ _ h => h) (by rfl) HS.out ?_ ?_
      rotate_left
      · intro wx hSx
        clear hSx
        go_simp
        try (with_reducible rfl)
      simp only [Act.put, List.setIfInBounds_toArray, List.set_cons_zero, List.set_cons_succ]
      refine wpAnyH_done (by kernel_rfl) ?_ _
      go_wp2
      go_ret
      exact ⟨by simp, HP.out.bel.trans (HS.out.mono HP.out.bel.size)⟩

end Go.Proofs.YtgimnkablodheaaDoor
