/- The law UartPlays, walked. -/
import Derived.Test.YtcbjfkbmbjmnbaaDoorUu
namespace Go.Proofs.YtcbjfkbmbjmnbaaDoor
open Go.RowKit
set_option linter.unusedVariables false

set_option maxRecDepth 100000 in
set_option maxHeartbeats 16000000 in
theorem uartPlays_walk (l : Value) (xs : List ActV) (w : World) (hl : ActsIn w.heap.size w l xs) (ht : Tab w) :
    Calls Tryd.prog 4 #[l] w fun e w' => e = .returned (.bool true) ∧ Below w.heap.size w w' := by
  have HL := Lib.hid hl
  have HT := Lib.hid ht
  obtain ⟨al, cl, rfl, hll, _⟩ := hl
  have hll2 : xs.length ≤ 9223372036854775807 := by unfold maxLen at hll; omega
  clear hll ht
  by_cases hx60 : 200 < xs.length
  · have hd : decide ((200 : Int) < (xs.length : Int)) = true := by rw [decide_eq_true_eq]; omega
    go_enter Tryd.func4, Tryd.ntmps4
    go_wp2_with fail
    refine (awake_any _ HT.out).mono ?_
    rintro e w1 ⟨rfl, hb⟩
    have HB := Lib.hid hb
    clear hb
    go_wp2
    go_ret
    exact ⟨rfl, HB.out⟩
  have hd : decide ((200 : Int) < (xs.length : Int)) = false := by rw [decide_eq_false_iff_not]; omega
  clear hx60
  go_enter Tryd.func4, Tryd.ntmps4
  go_wp2_with fail
  refine (awake_any _ HT.out).mono ?_
  rintro e w1 ⟨rfl, hb⟩
  have HB := Lib.hid hb
  clear hb
  go_wp2_with fail
  refine (ownNew w _ HT.out HB.out).mono ?_
  rintro e w2 ⟨a, rfl, F, ho⟩
  have HO := Lib.hid ho
  clear ho
  go_wp2_with fail
  refine (ownNewR w w2 HO.out.bel).mono ?_
  rintro e w3 ⟨c, Fc, rfl, hk, hn, hc⟩
  have HD := Lib.hid (OwnD.made HO.out hk hn hc)
  clear hk hn hc HO
  go_wp2
  go_loopw [3, 5] (fun u i wr => ∃ k : Nat, k ≤ xs.length ∧ i = .int .i64 k ∧ ∃ a t, u = .pointer (some ⟨a, 0, none⟩) ∧ OwnD w wr a c t) (fun _ i _ => xs.length - (intOf i).toNat)
  case atStart => exact ⟨0, Nat.zero_le _, rfl, a, _, rfl, HD.out⟩
  case round =>
    obtain ⟨k, hk, rfl, a, t, rfl, hT⟩ := hrel
    replace HD := Lib.hid hT
    have hbr := hT.bel
    clear hT
    by_cases hlt : k < xs.length
    · obtain ⟨_, _, hv, _, hx⟩ := HL.out
      injection hv with hv1 hv2 hv3
      subst hv1 hv3
      rcases hx with hx | ⟨bb, off, rfl, hbb, hc⟩
      · rw [hx] at hlt; simp at hlt
      have HC : Hid (∀ wz, Below w.heap.size w wz → ActAt wz ⟨bb, off + k * 4, none⟩ xs[k]) := Lib.hid fun wz hz => (hc k hlt).below hz hbb
      obtain ⟨c0, c1, c2, c3, r0, r1, r2, r3⟩ := act_at (HC.out wr hbr)
      have HBOTH := Lib.hid (HD.out.both xs[k] r1 r3)
      have HR3 := Lib.hid r3
      clear hc hbr hv2 r0 r1 r2 r3
      unfold actVal at HBOTH
      generalize xs[k] = x at *
      obtain ⟨xd, xa, xn, xv⟩ := x
      simp only at c0 c1 c2 c3 HBOTH HR3
      go_wp2_with fail
      (with_reducible refine (HBOTH.out).mono ?_)
      rintro e w7 ⟨rfl, hD7⟩
      have HD7 := Lib.hid hD7
      clear c0 c1 c2 c3
      obtain ⟨c0, _, _, c3, _⟩ := act_at (HC.out w7 hD7.bel)
      simp only at c0 c3
      clear hD7 HBOTH
      by_cases hx3 : xd = 3
      · subst hx3
        have hact : actT t ⟨3, xa, xn, xv⟩ = t := rfl
        rw [hact] at HD7
        clear hact
        obtain ⟨_, _, FaD, FcD, TD, _, hDu⟩ := HD7.out
        have HTW := Lib.hid (twin_any w7 a FaD t hDu.pa)
        clear hDu
        go_wp2_with fail
        (with_reducible refine (HTW.out).mono ?_)
        rintro e w8 hM
        obtain ⟨b, he⟩ : ∃ b, e = .returned (.pointer (some ⟨b, 0, none⟩)) := by obtain ⟨b, _, _, _, he, _⟩ := hM; exact ⟨b, he⟩
        subst he
        obtain ⟨Fa, Fb, Fc, hq⟩ := Trio.made HD7.out hM
        have HQ := Lib.hid hq
        clear hM HTW HD7 c0 c3
        obtain ⟨c0, _, _, c3, _⟩ := act_at (HC.out w8 hq.bel)
        simp only at c0 c3
        clear hq
        go_wp2_with fail
        (with_reducible refine (write_any w8 b Fb t HQ.out.pb HQ.out.tab HQ.out.tb 0 1 xv in64_of HR3.out).mono ?_)
        rintro e w9 ⟨rfl, hk9⟩
        obtain ⟨Fb, hq⟩ := HQ.out.turnB hk9
        replace HQ := Lib.hid hq
        clear c0 c3 hk9
        obtain ⟨c0, _, _, c3, _⟩ := act_at (HC.out w9 hq.bel)
        simp only at c0 c3
        clear hq
        go_wp2_with fail
        (with_reducible refine (refWrite_any w9 c Fc t HQ.out.rc 0 1 xv in64_of HR3.out).mono ?_)
        rintro e w10 ⟨rfl, hk9⟩
        obtain ⟨Fc, hq⟩ := HQ.out.turnC hk9
        replace HQ := Lib.hid hq
        clear c0 c3 hk9
        obtain ⟨c0, _, _, c3, _⟩ := act_at (HC.out w10 hq.bel)
        simp only at c0 c3
        clear hq
        generalize wrT t (xv % 256) (plK t 0 1) = t2 at *
        generalize okK (plK t 0 1) = r2 at *
        have HV : Hid (In64 (IntKind.u64.wrap (xv + 1))) := Lib.hid (by rw [wrap_eq]; exact U_in _)
        go_wp2_with fail
        refine (write_any w10 a Fa t HQ.out.pa HQ.out.tab HQ.out.ta 0 1 _ in64_of HV.out).mono ?_
        rintro e w11 ⟨rfl, hk9⟩
        obtain ⟨Fa, hq⟩ := HQ.out.turnA hk9
        replace HQ := Lib.hid hq
        clear c0 c3 hk9 hq HV
        generalize wrT t (IntKind.u64.wrap (xv + 1) % 256) (plK t 0 1) = t3 at *
        obtain ⟨qi, qo, hqp⟩ := HQ.out.pa
        have HFE := Lib.hid (feed_any w11 a Fa t3 qi qo hqp 7 (by decide))
        clear hqp
        go_wp2_with fail
        (with_reducible refine (HFE.out).mono ?_)
        rintro e w12 ⟨rfl, hk9⟩
        obtain ⟨Fa, hq⟩ := HQ.out.turnA hk9
        replace HQ := Lib.hid hq
        clear hk9 hq HFE
        generalize feedT t3 7 = t4 at *
        go_wp2_with fail
        (with_reducible refine (read_any w12 a Fa t4 HQ.out.pa 0 1 in64_of).mono ?_)
        rintro e w13 ⟨rfl, hk9⟩
        obtain ⟨Fa, hq⟩ := HQ.out.turnA hk9
        have HD8 := Lib.hid hq.drop
        clear hk9 hq HQ
        generalize rdX t4 (plK t4 0 1) = X4 at *
        generalize okK (plK t4 0 1) = r4 at *
        go_wp2_with fail
        obtain ⟨_, _, Fa9, Fc9, T9, _, hDu⟩ := HD8.out
        have hlo := hDu.pa.ok.lo
        have hli := hDu.pa.ok.li
        have HDU := Lib.hid hDu
        obtain ⟨ui, uo, hR⟩ := hDu.rc
        obtain ⟨vi, vo, hP⟩ := hDu.pa
        have HRR := Lib.hid hR
        have HPP := Lib.hid hP
        obtain ⟨ai, ci, rfl, _, _, _⟩ := hR.ri.reads (by omega)
        obtain ⟨ao, co, rfl, _, _, _⟩ := hR.ro.reads (by omega)
        have HWA : Hid (∀ wx, Below w13.heap.size w13 wx → Calls Tryd.prog 15 #[.pointer (some ⟨b, 0, none⟩)] wx fun e w' => e = .returned (.int .i64 (t2.inn.length : Int)) ∧ wx = w') := Lib.hid fun wx hx => waiting_any wx b Fa9 t2 vi vo (HPP.out.below hx)
        have HLA : Hid (∀ wx, Below w13.heap.size w13 wx → Calls Tryd.prog 11 #[.pointer (some ⟨b, 0, none⟩)] wx fun e w' => e = .returned (.bool (lineU t2)) ∧ wx = w') := Lib.hid fun wx hx => line_any wx b Fa9 t2 vi vo (HPP.out.below hx)
        have HLR : Hid (∀ wx, Below w13.heap.size w13 wx → Calls Tryd.prog 23 #[.pointer (some ⟨c, 0, none⟩)] wx fun e w' => e = .returned (.bool (lineU t2)) ∧ wx = w') := Lib.hid fun wx hx => refLine_any wx c Fc9 t2 _ _ (HRR.out.below hx)
        have HOA : Hid (∀ wx, Below w13.heap.size w13 wx → Calls Tryd.prog 14 #[.pointer (some ⟨b, 0, none⟩)] wx (CloneE wx t2.out)) := Lib.hid fun wx hx => out_any wx b Fa9 t2 ⟨vi, vo, HPP.out.below hx⟩
        have HCR : Hid (∀ wx, Below w13.heap.size w13 wx → (convert 28 9 (.slice ao t2.out.length co)).run Tryd.prog wx = .ok (.string (strOfNums t2.out)) wx) := Lib.hid fun wx hx => conv_row (HRR.out.below hx).ro (by omega)
        have HLO : Hid (t2.out.length ≤ 70000) := Lib.hid (by omega)
        have HSTR : Hid (∀ wx v, RowB wx v t2.out → (convert 28 9 v).run Tryd.prog wx = .ok (.string (strOfNums t2.out)) wx) := Lib.hid fun wx v hv => conv_row hv (by omega)
        clear hDu hR hP hlo hli
        generalize strOfNums t2.out = sO at *
        refine wp_region_held_drew (S := fun wx => Below w13.heap.size w13 wx) (by kernel_rfl) ((Below.refl _ _).drew) (fun hHeld0 => ?_)
        have HS := Lib.hid hHeld0
        clear hHeld0
        refine takeD (i := 0) (some 65) (v := ?_) rfl rfl (by kernel_rfl) (by kernel_rfl) (by kernel_rfl) (fun _ _ _ h => h) (by rfl) HS.out ?_ ?_
        rotate_left
        · intro wx hSx
          clear hSx
          go_simp
          try (with_reducible rfl)
        simp only [Act.put, List.setIfInBounds_toArray, List.set_cons_zero, List.set_cons_succ]
        refine takeD (i := 2) (some 67) (v := ?_) rfl rfl (by kernel_rfl) (by kernel_rfl) (by kernel_rfl) (fun _ _ _ h => h) (by rfl) HS.out ?_ ?_
        rotate_left
        · intro wx hSx
          clear hSx
          go_simp
          try (with_reducible rfl)
        simp only [Act.put, List.setIfInBounds_toArray, List.set_cons_zero, List.set_cons_succ]
        refine takeD (i := 3) (some 68) (v := ?_) rfl rfl (by kernel_rfl) (by kernel_rfl) (by kernel_rfl) (fun _ _ _ h => h) (by rfl) HS.out ?_ ?_
        rotate_left
        · intro wx hSx
          clear hSx
          go_simp
          try (with_reducible rfl)
        simp only [Act.put, List.setIfInBounds_toArray, List.set_cons_zero, List.set_cons_succ]
        refine takeD (i := 4) (some 69) (v := ?_) rfl rfl (by kernel_rfl) (by kernel_rfl) (by kernel_rfl) (fun _ _ _ h => h) (by rfl) HS.out ?_ ?_
        rotate_left
        · intro wx hSx
          clear hSx
          go_simp
          try (with_reducible rfl)
        simp only [Act.put, List.setIfInBounds_toArray, List.set_cons_zero, List.set_cons_succ]
        refine takeD (i := 5) (some 70) (v := ?_) rfl rfl (by kernel_rfl) (by kernel_rfl) (by kernel_rfl) (fun _ _ _ h => h) (by rfl) HS.out ?_ ?_
        rotate_left
        · intro wx hSx
          obtain ⟨d0, d1, _⟩ := (HRR.out.below hSx).rcells
          clear hSx
          go_simp
          try (with_reducible rfl)
        simp only [Act.put, List.setIfInBounds_toArray, List.set_cons_zero, List.set_cons_succ]
        refine takeD (i := 6) (some 71) (v := ?_) rfl rfl (by kernel_rfl) (by kernel_rfl) (by kernel_rfl) (fun _ _ _ h => h) (by rfl) HS.out ?_ ?_
        rotate_left
        · intro wx hSx
          clear hSx
          go_simp
          try (with_reducible rfl)
        simp only [Act.put, List.setIfInBounds_toArray, List.set_cons_zero, List.set_cons_succ]
        refine wpAnyH_ready (rs := [1]) (by kernel_rfl) (by simp) ?_
        refine AllReadyH.cons rfl (fun K hK => ?_) AllReadyH.nil
        go_simp
        (with_reducible refine (HWA.out _ HS.out).mono ?_)
        rintro e wq ⟨rfl, rfl⟩
        go_simp
        refine hK.out _ _ ?_ (fun hHeld => ?_)
        · exact HS.out
        clear hHeld hK K
        try simp only [Act.put, List.setIfInBounds_toArray, List.set_cons_zero, List.set_cons_succ]
        refine takeD (i := 7) (some 72) (v := ?_) rfl rfl (by kernel_rfl) (by kernel_rfl) (by kernel_rfl) (fun _ _ _ h => h) (by rfl) HS.out ?_ ?_
        rotate_left
        · intro wx hSx
          clear hSx
          go_simp
          try (with_reducible rfl)
        simp only [Act.put, List.setIfInBounds_toArray, List.set_cons_zero, List.set_cons_succ]
        refine takeD (i := 8) (some 73) (v := ?_) rfl rfl (by kernel_rfl) (by kernel_rfl) (by kernel_rfl) (fun _ _ _ h => h) (by rfl) HS.out ?_ ?_
        rotate_left
        · intro wx hSx
          clear hSx
          go_simp
          try (with_reducible rfl)
        simp only [Act.put, List.setIfInBounds_toArray, List.set_cons_zero, List.set_cons_succ]
        refine takeD (i := 9) (some 74) (v := ?_) rfl rfl (by kernel_rfl) (by kernel_rfl) (by kernel_rfl) (fun _ _ _ h => h) (by rfl) HS.out ?_ ?_
        rotate_left
        · intro wx hSx
          clear hSx
          go_simp
          try (with_reducible rfl)
        simp only [Act.put, List.setIfInBounds_toArray, List.set_cons_zero, List.set_cons_succ]
        refine takeD (i := 11) (some 76) (v := ?_) rfl rfl (by kernel_rfl) (by kernel_rfl) (by kernel_rfl) (fun _ _ _ h => h) (by rfl) HS.out ?_ ?_
        rotate_left
        · intro wx hSx
          clear hSx
          go_simp
          try (with_reducible rfl)
        simp only [Act.put, List.setIfInBounds_toArray, List.set_cons_zero, List.set_cons_succ]
        refine wpAnyH_ready (rs := [10]) (by kernel_rfl) (by simp) ?_
        refine AllReadyH.cons rfl (fun K hK => ?_) AllReadyH.nil
        go_simp
        (with_reducible refine (HLA.out _ HS.out).mono ?_)
        rintro e wq ⟨rfl, rfl⟩
        go_simp
        refine hK.out _ _ ?_ (fun hHeld => ?_)
        · exact HS.out
        clear hHeld hK K
        try simp only [Act.put, List.setIfInBounds_toArray, List.set_cons_zero, List.set_cons_succ]
        refine wpAnyH_ready (rs := [12]) (by kernel_rfl) (by simp) ?_
        refine AllReadyH.cons rfl (fun K hK => ?_) AllReadyH.nil
        go_simp
        (with_reducible refine (HLR.out _ HS.out).mono ?_)
        rintro e wq ⟨rfl, rfl⟩
        go_simp
        refine hK.out _ _ ?_ (fun hHeld => ?_)
        · exact HS.out
        clear hHeld hK K
        try simp only [Act.put, List.setIfInBounds_toArray, List.set_cons_zero, List.set_cons_succ]
        refine takeD (i := 13) (some 78) (v := ?_) rfl rfl (by kernel_rfl) (by kernel_rfl) (by kernel_rfl) (fun _ _ _ h => h) (by rfl) HS.out ?_ ?_
        rotate_left
        · intro wx hSx
          clear hSx
          go_simp
          try (with_reducible rfl)
        simp only [Act.put, List.setIfInBounds_toArray, List.set_cons_zero, List.set_cons_succ]
        refine takeD (i := 14) (some 79) (v := ?_) rfl rfl (by kernel_rfl) (by kernel_rfl) (by kernel_rfl) (fun _ _ _ h => h) (by rfl) HS.out ?_ ?_
        rotate_left
        · intro wx hSx
          clear hSx
          go_simp
          try (with_reducible rfl)
        simp only [Act.put, List.setIfInBounds_toArray, List.set_cons_zero, List.set_cons_succ]
        refine takeD (i := 15) (some 80) (v := ?_) rfl rfl (by kernel_rfl) (by kernel_rfl) (by kernel_rfl) (fun _ _ _ h => h) (by rfl) HS.out ?_ ?_
        rotate_left
        · intro wx hSx
          clear hSx
          go_simp
          try (with_reducible rfl)
        simp only [Act.put, List.setIfInBounds_toArray, List.set_cons_zero, List.set_cons_succ]
        refine takeD (i := 16) (some 81) (v := ?_) rfl rfl (by kernel_rfl) (by kernel_rfl) (by kernel_rfl) (fun _ _ _ h => h) (by rfl) HS.out ?_ ?_
        rotate_left
        · intro wx hSx
          clear hSx
          go_simp
          try (with_reducible rfl)
        simp only [Act.put, List.setIfInBounds_toArray, List.set_cons_zero, List.set_cons_succ]
        refine takeD (i := 19) (some 84) (v := ?_) rfl rfl (by kernel_rfl) (by kernel_rfl) (by kernel_rfl) (fun _ _ _ h => h) (by rfl) HS.out ?_ ?_
        rotate_left
        · intro wx hSx
          clear hSx
          go_simp
          try (with_reducible rfl)
        simp only [Act.put, List.setIfInBounds_toArray, List.set_cons_zero, List.set_cons_succ]
        refine takeD (i := 20) (some 85) (v := ?_) rfl rfl (by kernel_rfl) (by kernel_rfl) (by kernel_rfl) (fun _ _ _ h => h) (by rfl) HS.out ?_ ?_
        rotate_left
        · intro wx hSx
          clear hSx
          go_simp
          try (with_reducible rfl)
        simp only [Act.put, List.setIfInBounds_toArray, List.set_cons_zero, List.set_cons_succ]
        refine takeD (i := 21) (some 86) (v := ?_) rfl rfl (by kernel_rfl) (by kernel_rfl) (by kernel_rfl) (fun _ _ _ h => h) (by rfl) HS.out ?_ ?_
        rotate_left
        · intro wx hSx
          clear hSx
          go_simp
          try (with_reducible rfl)
        simp only [Act.put, List.setIfInBounds_toArray, List.set_cons_zero, List.set_cons_succ]
        refine takeD (i := 22) (some 87) (v := ?_) rfl rfl (by kernel_rfl) (by kernel_rfl) (by kernel_rfl) (fun _ _ _ h => h) (by rfl) HS.out ?_ ?_
        rotate_left
        · intro wx hSx
          obtain ⟨d0, d1, _⟩ := (HRR.out.below hSx).rcells
          clear hSx
          go_simp
          try (with_reducible rfl)
        simp only [Act.put, List.setIfInBounds_toArray, List.set_cons_zero, List.set_cons_succ]
        refine takeD (i := 23) (some 88) (v := ?_) rfl rfl (by kernel_rfl) (by kernel_rfl) (by kernel_rfl) (fun _ _ _ h => h) (by rfl) HS.out ?_ ?_
        rotate_left
        · intro wx hSx
          have hcv := HCR.out wx hSx
          clear hSx
          go_simp
          try (with_reducible rfl)
        simp only [Act.put, List.setIfInBounds_toArray, List.set_cons_zero, List.set_cons_succ]
        refine wpAnyH_ready (rs := [17]) (by kernel_rfl) (by simp) ?_
        refine AllReadyH.cons rfl (fun K hK => ?_) AllReadyH.nil
        go_simp
        (with_reducible refine (HOA.out _ HS.out).mono ?_)
        rintro e w5 ⟨a5, c5, rfl, hb5, hr5, _⟩
        have HB5 : Hid (Below w13.heap.size w13 w5) := Lib.hid (HS.out.trans (hb5.mono HS.out.size))
        have HCV : Hid (∀ wx, Below w5.heap.size w5 wx → (convert 28 9 (.slice a5 t2.out.length c5)).run Tryd.prog wx = .ok (.string sO) wx) := Lib.hid fun wx hx => HSTR.out wx _ (hr5.below hx)
        clear hb5 hr5
        go_simp
        refine hK.out _ _ ?_ (fun hHeld => ?_)
        · exact HB5.out
        clear hHeld hK K
        try simp only [Act.put, List.setIfInBounds_toArray, List.set_cons_zero, List.set_cons_succ]
        replace HS := HB5
        refine wpAnyH_more (T := fun wx => Below w5.heap.size w5 wx) (fun wx hx => HB5.out.trans (hx.mono HB5.out.size)) _ _ _ _ ?_
        replace HS : Hid (Below w5.heap.size w5 w5) := Lib.hid (Below.refl _ _)
        refine takeD (i := 18) (some 83) (v := ?_) rfl rfl (by kernel_rfl) (by kernel_rfl) (by kernel_rfl) (fun _ _ _ h => h) (by rfl) HS.out ?_ ?_
        rotate_left
        · intro wx hSx
          have hcv := HCV.out wx hSx
          clear hSx
          go_simp
          try (with_reducible rfl)
        simp only [Act.put, List.setIfInBounds_toArray, List.set_cons_zero, List.set_cons_succ]
        refine takeD (i := 24) (some 89) (v := ?_) rfl rfl (by kernel_rfl) (by kernel_rfl) (by kernel_rfl) (fun _ _ _ h => h) (by rfl) HS.out ?_ ?_
        rotate_left
        · intro wx hSx
          clear hSx
          go_simp
          try (with_reducible rfl)
        simp only [Act.put, List.setIfInBounds_toArray, List.set_cons_zero, List.set_cons_succ]
        refine takeD (i := 25) (some 90) (v := ?_) rfl rfl (by kernel_rfl) (by kernel_rfl) (by kernel_rfl) (fun _ _ _ h => h) (by rfl) HS.out ?_ ?_
        rotate_left
        · intro wx hSx
          clear hSx
          go_simp
          try (with_reducible rfl)
        simp only [Act.put, List.setIfInBounds_toArray, List.set_cons_zero, List.set_cons_succ]
        refine wpAnyH_done (by kernel_rfl) ?_ _
        go_wp2
        exact ⟨⟨k + 1, by omega, by go_num, b, t2, rfl, HD8.out.below HB5.out⟩, by simp [intOf]; omega⟩
      · have hb3 : (xd == 3) = false := by simpa using hx3
        clear hx3
        generalize actT t ⟨xd, xa, xn, xv⟩ = t2 at *
        go_wp2_with fail
        obtain ⟨_, _, Fa9, Fc9, T9, _, hDu⟩ := HD7.out
        have hlo := hDu.pa.ok.lo
        have hli := hDu.pa.ok.li
        have HDU := Lib.hid hDu
        obtain ⟨ui, uo, hR⟩ := hDu.rc
        obtain ⟨vi, vo, hP⟩ := hDu.pa
        have HRR := Lib.hid hR
        have HPP := Lib.hid hP
        obtain ⟨ai, ci, rfl, _, _, _⟩ := hR.ri.reads (by omega)
        obtain ⟨ao, co, rfl, _, _, _⟩ := hR.ro.reads (by omega)
        have HWA : Hid (∀ wx, Below w7.heap.size w7 wx → Calls Tryd.prog 15 #[.pointer (some ⟨a, 0, none⟩)] wx fun e w' => e = .returned (.int .i64 (t2.inn.length : Int)) ∧ wx = w') := Lib.hid fun wx hx => waiting_any wx a Fa9 t2 vi vo (HPP.out.below hx)
        have HLA : Hid (∀ wx, Below w7.heap.size w7 wx → Calls Tryd.prog 11 #[.pointer (some ⟨a, 0, none⟩)] wx fun e w' => e = .returned (.bool (lineU t2)) ∧ wx = w') := Lib.hid fun wx hx => line_any wx a Fa9 t2 vi vo (HPP.out.below hx)
        have HLR : Hid (∀ wx, Below w7.heap.size w7 wx → Calls Tryd.prog 23 #[.pointer (some ⟨c, 0, none⟩)] wx fun e w' => e = .returned (.bool (lineU t2)) ∧ wx = w') := Lib.hid fun wx hx => refLine_any wx c Fc9 t2 _ _ (HRR.out.below hx)
        have HOA : Hid (∀ wx, Below w7.heap.size w7 wx → Calls Tryd.prog 14 #[.pointer (some ⟨a, 0, none⟩)] wx (CloneE wx t2.out)) := Lib.hid fun wx hx => out_any wx a Fa9 t2 ⟨vi, vo, HPP.out.below hx⟩
        have HCR : Hid (∀ wx, Below w7.heap.size w7 wx → (convert 28 9 (.slice ao t2.out.length co)).run Tryd.prog wx = .ok (.string (strOfNums t2.out)) wx) := Lib.hid fun wx hx => conv_row (HRR.out.below hx).ro (by omega)
        have HLO : Hid (t2.out.length ≤ 70000) := Lib.hid (by omega)
        have HSTR : Hid (∀ wx v, RowB wx v t2.out → (convert 28 9 v).run Tryd.prog wx = .ok (.string (strOfNums t2.out)) wx) := Lib.hid fun wx v hv => conv_row hv (by omega)
        clear hDu hR hP hlo hli
        generalize strOfNums t2.out = sO at *
        refine wp_region_held_drew (S := fun wx => Below w7.heap.size w7 wx) (by kernel_rfl) ((Below.refl _ _).drew) (fun hHeld0 => ?_)
        have HS := Lib.hid hHeld0
        clear hHeld0
        refine takeD (i := 0) (some 65) (v := ?_) rfl rfl (by kernel_rfl) (by kernel_rfl) (by kernel_rfl) (fun _ _ _ h => h) (by rfl) HS.out ?_ ?_
        rotate_left
        · intro wx hSx
          clear hSx
          go_simp
          try (with_reducible rfl)
        simp only [Act.put, List.setIfInBounds_toArray, List.set_cons_zero, List.set_cons_succ]
        refine takeD (i := 2) (some 67) (v := ?_) rfl rfl (by kernel_rfl) (by kernel_rfl) (by kernel_rfl) (fun _ _ _ h => h) (by rfl) HS.out ?_ ?_
        rotate_left
        · intro wx hSx
          clear hSx
          go_simp
          try (with_reducible rfl)
        simp only [Act.put, List.setIfInBounds_toArray, List.set_cons_zero, List.set_cons_succ]
        refine takeD (i := 3) (some 68) (v := ?_) rfl rfl (by kernel_rfl) (by kernel_rfl) (by kernel_rfl) (fun _ _ _ h => h) (by rfl) HS.out ?_ ?_
        rotate_left
        · intro wx hSx
          clear hSx
          go_simp
          try (with_reducible rfl)
        simp only [Act.put, List.setIfInBounds_toArray, List.set_cons_zero, List.set_cons_succ]
        refine takeD (i := 4) (some 69) (v := ?_) rfl rfl (by kernel_rfl) (by kernel_rfl) (by kernel_rfl) (fun _ _ _ h => h) (by rfl) HS.out ?_ ?_
        rotate_left
        · intro wx hSx
          clear hSx
          go_simp
          try (with_reducible rfl)
        simp only [Act.put, List.setIfInBounds_toArray, List.set_cons_zero, List.set_cons_succ]
        refine takeD (i := 5) (some 70) (v := ?_) rfl rfl (by kernel_rfl) (by kernel_rfl) (by kernel_rfl) (fun _ _ _ h => h) (by rfl) HS.out ?_ ?_
        rotate_left
        · intro wx hSx
          obtain ⟨d0, d1, _⟩ := (HRR.out.below hSx).rcells
          clear hSx
          go_simp
          try (with_reducible rfl)
        simp only [Act.put, List.setIfInBounds_toArray, List.set_cons_zero, List.set_cons_succ]
        refine takeD (i := 6) (some 71) (v := ?_) rfl rfl (by kernel_rfl) (by kernel_rfl) (by kernel_rfl) (fun _ _ _ h => h) (by rfl) HS.out ?_ ?_
        rotate_left
        · intro wx hSx
          clear hSx
          go_simp
          try (with_reducible rfl)
        simp only [Act.put, List.setIfInBounds_toArray, List.set_cons_zero, List.set_cons_succ]
        refine wpAnyH_ready (rs := [1]) (by kernel_rfl) (by simp) ?_
        refine AllReadyH.cons rfl (fun K hK => ?_) AllReadyH.nil
        go_simp
        (with_reducible refine (HWA.out _ HS.out).mono ?_)
        rintro e wq ⟨rfl, rfl⟩
        go_simp
        refine hK.out _ _ ?_ (fun hHeld => ?_)
        · exact HS.out
        clear hHeld hK K
        try simp only [Act.put, List.setIfInBounds_toArray, List.set_cons_zero, List.set_cons_succ]
        refine takeD (i := 7) (some 72) (v := ?_) rfl rfl (by kernel_rfl) (by kernel_rfl) (by kernel_rfl) (fun _ _ _ h => h) (by rfl) HS.out ?_ ?_
        rotate_left
        · intro wx hSx
          clear hSx
          go_simp
          try (with_reducible rfl)
        simp only [Act.put, List.setIfInBounds_toArray, List.set_cons_zero, List.set_cons_succ]
        refine takeD (i := 8) (some 73) (v := ?_) rfl rfl (by kernel_rfl) (by kernel_rfl) (by kernel_rfl) (fun _ _ _ h => h) (by rfl) HS.out ?_ ?_
        rotate_left
        · intro wx hSx
          clear hSx
          go_simp
          try (with_reducible rfl)
        simp only [Act.put, List.setIfInBounds_toArray, List.set_cons_zero, List.set_cons_succ]
        refine takeD (i := 9) (some 74) (v := ?_) rfl rfl (by kernel_rfl) (by kernel_rfl) (by kernel_rfl) (fun _ _ _ h => h) (by rfl) HS.out ?_ ?_
        rotate_left
        · intro wx hSx
          clear hSx
          go_simp
          try (with_reducible rfl)
        simp only [Act.put, List.setIfInBounds_toArray, List.set_cons_zero, List.set_cons_succ]
        refine takeD (i := 11) (some 76) (v := ?_) rfl rfl (by kernel_rfl) (by kernel_rfl) (by kernel_rfl) (fun _ _ _ h => h) (by rfl) HS.out ?_ ?_
        rotate_left
        · intro wx hSx
          clear hSx
          go_simp
          try (with_reducible rfl)
        simp only [Act.put, List.setIfInBounds_toArray, List.set_cons_zero, List.set_cons_succ]
        refine wpAnyH_ready (rs := [10]) (by kernel_rfl) (by simp) ?_
        refine AllReadyH.cons rfl (fun K hK => ?_) AllReadyH.nil
        go_simp
        (with_reducible refine (HLA.out _ HS.out).mono ?_)
        rintro e wq ⟨rfl, rfl⟩
        go_simp
        refine hK.out _ _ ?_ (fun hHeld => ?_)
        · exact HS.out
        clear hHeld hK K
        try simp only [Act.put, List.setIfInBounds_toArray, List.set_cons_zero, List.set_cons_succ]
        refine wpAnyH_ready (rs := [12]) (by kernel_rfl) (by simp) ?_
        refine AllReadyH.cons rfl (fun K hK => ?_) AllReadyH.nil
        go_simp
        (with_reducible refine (HLR.out _ HS.out).mono ?_)
        rintro e wq ⟨rfl, rfl⟩
        go_simp
        refine hK.out _ _ ?_ (fun hHeld => ?_)
        · exact HS.out
        clear hHeld hK K
        try simp only [Act.put, List.setIfInBounds_toArray, List.set_cons_zero, List.set_cons_succ]
        refine takeD (i := 13) (some 78) (v := ?_) rfl rfl (by kernel_rfl) (by kernel_rfl) (by kernel_rfl) (fun _ _ _ h => h) (by rfl) HS.out ?_ ?_
        rotate_left
        · intro wx hSx
          clear hSx
          go_simp
          try (with_reducible rfl)
        simp only [Act.put, List.setIfInBounds_toArray, List.set_cons_zero, List.set_cons_succ]
        refine takeD (i := 14) (some 79) (v := ?_) rfl rfl (by kernel_rfl) (by kernel_rfl) (by kernel_rfl) (fun _ _ _ h => h) (by rfl) HS.out ?_ ?_
        rotate_left
        · intro wx hSx
          clear hSx
          go_simp
          try (with_reducible rfl)
        simp only [Act.put, List.setIfInBounds_toArray, List.set_cons_zero, List.set_cons_succ]
        refine takeD (i := 15) (some 80) (v := ?_) rfl rfl (by kernel_rfl) (by kernel_rfl) (by kernel_rfl) (fun _ _ _ h => h) (by rfl) HS.out ?_ ?_
        rotate_left
        · intro wx hSx
          clear hSx
          go_simp
          try (with_reducible rfl)
        simp only [Act.put, List.setIfInBounds_toArray, List.set_cons_zero, List.set_cons_succ]
        refine takeD (i := 16) (some 81) (v := ?_) rfl rfl (by kernel_rfl) (by kernel_rfl) (by kernel_rfl) (fun _ _ _ h => h) (by rfl) HS.out ?_ ?_
        rotate_left
        · intro wx hSx
          clear hSx
          go_simp
          try (with_reducible rfl)
        simp only [Act.put, List.setIfInBounds_toArray, List.set_cons_zero, List.set_cons_succ]
        refine takeD (i := 19) (some 84) (v := ?_) rfl rfl (by kernel_rfl) (by kernel_rfl) (by kernel_rfl) (fun _ _ _ h => h) (by rfl) HS.out ?_ ?_
        rotate_left
        · intro wx hSx
          clear hSx
          go_simp
          try (with_reducible rfl)
        simp only [Act.put, List.setIfInBounds_toArray, List.set_cons_zero, List.set_cons_succ]
        refine takeD (i := 20) (some 85) (v := ?_) rfl rfl (by kernel_rfl) (by kernel_rfl) (by kernel_rfl) (fun _ _ _ h => h) (by rfl) HS.out ?_ ?_
        rotate_left
        · intro wx hSx
          clear hSx
          go_simp
          try (with_reducible rfl)
        simp only [Act.put, List.setIfInBounds_toArray, List.set_cons_zero, List.set_cons_succ]
        refine takeD (i := 21) (some 86) (v := ?_) rfl rfl (by kernel_rfl) (by kernel_rfl) (by kernel_rfl) (fun _ _ _ h => h) (by rfl) HS.out ?_ ?_
        rotate_left
        · intro wx hSx
          clear hSx
          go_simp
          try (with_reducible rfl)
        simp only [Act.put, List.setIfInBounds_toArray, List.set_cons_zero, List.set_cons_succ]
        refine takeD (i := 22) (some 87) (v := ?_) rfl rfl (by kernel_rfl) (by kernel_rfl) (by kernel_rfl) (fun _ _ _ h => h) (by rfl) HS.out ?_ ?_
        rotate_left
        · intro wx hSx
          obtain ⟨d0, d1, _⟩ := (HRR.out.below hSx).rcells
          clear hSx
          go_simp
          try (with_reducible rfl)
        simp only [Act.put, List.setIfInBounds_toArray, List.set_cons_zero, List.set_cons_succ]
        refine takeD (i := 23) (some 88) (v := ?_) rfl rfl (by kernel_rfl) (by kernel_rfl) (by kernel_rfl) (fun _ _ _ h => h) (by rfl) HS.out ?_ ?_
        rotate_left
        · intro wx hSx
          have hcv := HCR.out wx hSx
          clear hSx
          go_simp
          try (with_reducible rfl)
        simp only [Act.put, List.setIfInBounds_toArray, List.set_cons_zero, List.set_cons_succ]
        refine wpAnyH_ready (rs := [17]) (by kernel_rfl) (by simp) ?_
        refine AllReadyH.cons rfl (fun K hK => ?_) AllReadyH.nil
        go_simp
        (with_reducible refine (HOA.out _ HS.out).mono ?_)
        rintro e w5 ⟨a5, c5, rfl, hb5, hr5, _⟩
        have HB5 : Hid (Below w7.heap.size w7 w5) := Lib.hid (HS.out.trans (hb5.mono HS.out.size))
        have HCV : Hid (∀ wx, Below w5.heap.size w5 wx → (convert 28 9 (.slice a5 t2.out.length c5)).run Tryd.prog wx = .ok (.string sO) wx) := Lib.hid fun wx hx => HSTR.out wx _ (hr5.below hx)
        clear hb5 hr5
        go_simp
        refine hK.out _ _ ?_ (fun hHeld => ?_)
        · exact HB5.out
        clear hHeld hK K
        try simp only [Act.put, List.setIfInBounds_toArray, List.set_cons_zero, List.set_cons_succ]
        replace HS := HB5
        refine wpAnyH_more (T := fun wx => Below w5.heap.size w5 wx) (fun wx hx => HB5.out.trans (hx.mono HB5.out.size)) _ _ _ _ ?_
        replace HS : Hid (Below w5.heap.size w5 w5) := Lib.hid (Below.refl _ _)
        refine takeD (i := 18) (some 83) (v := ?_) rfl rfl (by kernel_rfl) (by kernel_rfl) (by kernel_rfl) (fun _ _ _ h => h) (by rfl) HS.out ?_ ?_
        rotate_left
        · intro wx hSx
          have hcv := HCV.out wx hSx
          clear hSx
          go_simp
          try (with_reducible rfl)
        simp only [Act.put, List.setIfInBounds_toArray, List.set_cons_zero, List.set_cons_succ]
        refine takeD (i := 24) (some 89) (v := ?_) rfl rfl (by kernel_rfl) (by kernel_rfl) (by kernel_rfl) (fun _ _ _ h => h) (by rfl) HS.out ?_ ?_
        rotate_left
        · intro wx hSx
          clear hSx
          go_simp
          try (with_reducible rfl)
        simp only [Act.put, List.setIfInBounds_toArray, List.set_cons_zero, List.set_cons_succ]
        refine takeD (i := 25) (some 90) (v := ?_) rfl rfl (by kernel_rfl) (by kernel_rfl) (by kernel_rfl) (fun _ _ _ h => h) (by rfl) HS.out ?_ ?_
        rotate_left
        · intro wx hSx
          clear hSx
          go_simp
          try (with_reducible rfl)
        simp only [Act.put, List.setIfInBounds_toArray, List.set_cons_zero, List.set_cons_succ]
        refine wpAnyH_done (by kernel_rfl) ?_ _
        go_wp2
        exact ⟨⟨k + 1, by omega, by go_num, a, t2, rfl, HD7.out.below HB5.out⟩, by simp [intOf]; omega⟩
    · obtain rfl : k = xs.length := by omega
      clear hbr
      go_wp2
      go_ret
      exact ⟨rfl, HD.out.bel⟩

end Go.Proofs.YtcbjfkbmbjmnbaaDoor
