/- The law BusDriven, walked. -/
import Derived.Test.YtohidopbggcejaaDoorMZ1
import Derived.Test.YtohidopbggcejaaDoorMZ2
import Derived.Test.YtohidopbggcejaaDoorMZ3
import Derived.Test.YtohidopbggcejaaDoorMZ4
import Derived.Test.YtohidopbggcejaaDoorMZ5
import Derived.Test.YtohidopbggcejaaDoorMZ6
import Derived.Test.YtohidopbggcejaaDoorMZ7
import Derived.Deep.RegionHeld3
import Derived.Deep.CutBlock
import Derived.Deep.CutRange
import Derived.Deep.LoopGhost
import Derived.IntWalk
import Derived.Outline
namespace Go.Proofs.YtohidopbggcejaaDoor
open Go.RowKit
set_option linter.unusedVariables false
set_option maxRecDepth 100000

set_option maxRecDepth 100000 in
set_option maxHeartbeats 16000000 in
theorem busDriven_walk (l : Value) (xs : List ActV) (w : World) (hl : ActsIn w.heap.size w l xs) (tabs : Tabs w) :
    Calls Tryd.prog 3 #[l] w fun e w' => e = .returned (.bool true) ∧ Below w.heap.size w w' := by
  have HL := Lib.hid hl
  have HT := Lib.hid tabs
  obtain ⟨al, cl, rfl, hll, hrest⟩ := hl
  have hll2 : xs.length ≤ 9223372036854775807 := by unfold maxLen at hll; omega
  clear hll tabs hrest
  by_cases hx60 : 100 < xs.length
  · have hd : decide ((100 : Int) < (xs.length : Int)) = true := by rw [decide_eq_true_eq]; omega
    go_enter Tryd.func3, Tryd.ntmps3
    go_wp2_with fail
    refine (awake_any _ HT.out).mono ?_
    rintro e w1 ⟨rfl, hb⟩
    have HB := Lib.hid hb
    clear hb
    go_wp2
    go_ret
    exact ⟨rfl, HB.out⟩
  have hd : decide ((100 : Int) < (xs.length : Int)) = false := by rw [decide_eq_false_iff_not]; omega
  clear hx60
  go_enter Tryd.func3, Tryd.ntmps3
  go_wp2_with fail
  refine (awake_any _ HT.out).mono ?_
  rintro e w1 ⟨rfl, hb⟩
  have HB := Lib.hid hb
  clear hb
  go_wp2_with fail
  (with_reducible refine (drvNew w _ HB.out HT.out (fun _ => 0) tz).mono ?_)
  rintro e w2 ⟨b, g, vp, ul, K, F0, rfl, hd0⟩
  have HD0 := Lib.hid hd0
  clear hd0 HB
  go_wp2_with fail
  (with_reducible refine (drvNewU HD0.out).mono ?_)
  rintro e w3 ⟨a0, F1, rfl, hd1⟩
  rw [show setT tz 0 U6.u0 = tz from setT_self tz 0] at hd1
  have HD1 := Lib.hid hd1
  clear hd1 HD0
  go_wp2_with fail
  (with_reducible refine (drvNewU HD1.out).mono ?_)
  rintro e w4 ⟨a1, F2, rfl, hd2⟩
  rw [show setT tz (0 + 1) U6.u0 = tz from setT_self tz 1] at hd2
  have hal := All.made hd2
  clear hd2 HD1
  obtain ⟨ua, hua⟩ : ∃ ua, P5.upd (P5.upd (fun _ => 0) 0 a0) (0 + 1) a1 = ua := ⟨_, rfl⟩
  have e0 : ua 0 = a0 := by rw [← hua]; rfl
  have e1 : ua 1 = a1 := by rw [← hua]; rfl
  rw [hua] at hal
  clear hua
  subst e0 e1
  go_upto_region 7 with fail
  obtain ⟨ub, hub⟩ : ∃ ub, w4.heap.size = ub := ⟨_, rfl⟩
  rw [hub] at hal ⊢
  generalize w4.alloc (.cells #[.pointer (some ⟨ua 0, 0, none⟩), .pointer (some ⟨ua 1, 0, none⟩)] 31) = w5 at *
  clear hub
  obtain ⟨c0, c1⟩ := hal.arr
  have HA0 := Lib.hid hal
  clear hal
  go_wp2_with (go_at_call 7; first
    | ((with_reducible refine (allWrite HA0.out 201326632 4 1 (by unfold In64; omega) (by unfold In64; omega) true sd1 sd_1).mono ?_); rintro e w6 ⟨rfl, ha⟩; have HA1 := Lib.hid ha; clear ha)
    | ((with_reducible refine (allWrite HA1.out 201326636 4 1 (by unfold In64; omega) (by unfold In64; omega) true sd2 sd_2).mono ?_); rintro e w7 ⟨rfl, ha⟩; have HA2 := Lib.hid ha; clear ha)
    | ((with_reducible refine (allWrite HA2.out 201334912 4 3072 (by unfold In64; omega) (by unfold In64; omega) true (idleS mz cl0 tz) sd_3).mono ?_); rintro e w8 ⟨rfl, ha⟩; have HA3 := Lib.hid ha; clear ha))
  clear c0 c1 HA0 HA1 HA2
  go_loopg [6] (xs.length) (fun gg i wr => ∃ j : Nat, j + gg = xs.length ∧ i = .int .i64 j ∧ ∃ t, All w b g vp ul ub ua (idleS mz cl0 t) t wr)
  case atStart => exact ⟨0, by omega, rfl, tz, HA3.out⟩
  case round =>
    obtain ⟨j, hj, rfl, t, hT⟩ := hrel
    have HA := Lib.hid hT
    have hbr := hT.bel
    clear hT HA3
    cases gk with
    | succ gg =>
      have hlt : j < xs.length := by omega
      obtain ⟨_, _, hv, _, hx⟩ := HL.out
      injection hv with hv1 hv2 hv3
      subst hv1 hv3
      rcases hx with hx | ⟨bb, off, rfl, hbb, hc⟩
      · rw [hx] at hlt; simp at hlt
      have HC : Hid (∀ wz, Below w.heap.size w wz → ActAt wz ⟨bb, off + j * 5, none⟩ xs[j]) := Lib.hid fun wz hz => (hc j hlt).below hz hbb
      obtain ⟨q0, q1, q2, q3, q4, r0, r1, r2, r3, r4⟩ := act_at (HC.out wr hbr)
      have R3 := Lib.hid r3
      obtain ⟨ra0, ra1⟩ := r1
      clear hc hbr hv2 r0 r2 r3 r4
      generalize xs[j] = x at *
      obtain ⟨xd, xa, xn, xv, xi⟩ := x
      simp only at q0 q1 q2 q3 q4 R3 ra0 ra1
      obtain ⟨k, hk, hki⟩ : ∃ k : Nat, k < 2 ∧ bits .and .i64 xi 1 = (k : Int) := ⟨(xi % 2).toNat, by omega, by rw [and_one]; omega⟩
      obtain ⟨r, hr0, hr1, hra⟩ : ∃ r : Int, 0 ≤ r ∧ r < 8 ∧ xa % 8 = r := ⟨_, by omega, by omega, rfl⟩
      have hrt : xa.tmod 8 = r := by rw [Int.tmod_eq_emod_of_nonneg ra0]; exact hra
      have hk2 : (k : Int) < 2 := by omega
      have HIN : Hid (In64 (268435456 + 4096 * (k : Int) + r)) := Lib.hid (by unfold In64; omega)
      have HRI : Hid (In64 r) := Lib.hid (by unfold In64; omega)
      have hu := HA.out.arrK hk
      have HAD := Lib.hid (HA.out.later (Below.refl wr.heap.size wr).drew)
      go_upto_block 2 with (fail)
      go_cut [9, 10, 11, 12] from 88 to 184 (fun _ _ _ _ wx => ∃ t', All w b g vp ul ub ua (actS mz cl0 t t') t' wx)
      case first =>
        by_cases hd0 : xd = 0
        · as_aux_lemma =>
            subst hd0
            have HE := Lib.hid (act_write mz cl0 t k hk r xn xv hr0 hr1)
            go_wp2_with fail
            go_region_held3 (fun w' => w'.cell? ⟨bb, off + j * 5 + 1, none⟩ = some (.int .u64 xa) ∧ w'.cell? ⟨bb, off + j * 5 + 2, none⟩ = some (.int .i64 xn) ∧ w'.cell? ⟨bb, off + j * 5 + 3, none⟩ = some (.int .u64 xv) ∧ w'.cell? ⟨ub, k, none⟩ = some (.pointer (some ⟨ua k, 0, none⟩))) (go_keep)
              (first
                | (go_at_call 7; (with_reducible refine (allWrite HAD.out _ xn xv HIN.out R3.out _ _ HE.out).mono ?_); rintro e w9 ⟨rfl, ha⟩; have ⟨_, d1, d2, d3, _⟩ := act_at (HC.out w9 ha.bel); simp only at d1 d2 d3; have du := ha.arrK hk; have HA9 := Lib.hid ha; clear ha)
                | (go_at_call 8; (with_reducible refine (allUWrite HA9.out hk r xn xv HRI.out R3.out).mono ?_); rintro e w10 ⟨rfl, ha⟩; have ⟨_, e1, e2, e3, _⟩ := act_at (HC.out w10 ha.bel); simp only at e1 e2 e3; have eu := ha.arrK hk; have HA10 := Lib.hid ha; clear ha))
            rename (_ ∧ _ ∧ _ ∧ _) => hheld
            clear hheld q0 q1 q2 q3 q4 d1 d2 d3 du e1 e2 e3 eu hu
            go_wp2
            go_meet
            exact ⟨_, HA10.out⟩
        by_cases hd1 : xd = 1
        · as_aux_lemma =>
            subst hd1
            clear hd0
            have HE := Lib.hid (act_read mz cl0 t k hk r xn hr0 hr1)
            go_wp2_with fail
            (with_reducible refine (allRead HA.out _ xn HIN.out _ _ _ HE.out).mono ?_)
            rintro e w9 ⟨rfl, ha⟩
            have ⟨_, d1, d2, d3, _⟩ := act_at (HC.out w9 ha.bel)
            simp only at d1 d2 d3
            have du := ha.arrK hk
            have HA9 := Lib.hid ha
            have HA9D := Lib.hid (ha.later (Below.refl w9.heap.size w9).drew)
            clear ha q0 q1 q2 q3 q4 hu
            go_wp2_with fail
            go_region_held3 (fun w' => w'.cell? ⟨bb, off + j * 5 + 1, none⟩ = some (.int .u64 xa) ∧ w'.cell? ⟨bb, off + j * 5 + 2, none⟩ = some (.int .i64 xn) ∧ w'.cell? ⟨ub, k, none⟩ = some (.pointer (some ⟨ua k, 0, none⟩))) (go_keep)
              (first
                | (go_at_call 10; (with_reducible refine (allURead HA9D.out hk r xn HRI.out).mono ?_); rintro e w10 ⟨rfl, ha⟩; have ⟨_, e1, e2, e3, _⟩ := act_at (HC.out w10 ha.bel); simp only at e1 e2 e3; have eu := ha.arrK hk; have HA10 := Lib.hid ha; clear ha))
            rename (_ ∧ _ ∧ _) => hheld
            clear hheld d1 d2 d3 du e1 e2 e3 eu
            go_wp2
            go_meet
            exact ⟨_, HA10.out⟩
        by_cases hd2 : xd = 2
        · as_aux_lemma =>
            subst hd2
            clear hd0 hd1
            obtain ⟨xb, hb0, hb1, hxb, hxb2⟩ : ∃ xb : Int, 0 ≤ xb ∧ xb < 256 ∧ IntKind.u8.wrap xv = xb ∧ xv % 256 = xb := ⟨xv % 256, by omega, by omega, by simp [IntKind.wrap, IntKind.bits, IntKind.signed], rfl⟩
            have HE := Lib.hid (act_feed mz cl0 t k hk xb)
            go_wp2_with fail
            go_region_held3 (fun w' => w'.cell? ⟨bb, off + j * 5 + 3, none⟩ = some (.int .u64 xv) ∧ w'.cell? ⟨ub, k, none⟩ = some (.pointer (some ⟨ua k, 0, none⟩))) (go_keep)
              (first
                | (go_at_call 11; (with_reducible refine (allFeed HAD.out _ xb ⟨hb0, hb1⟩ _ _ HE.out).mono ?_); rintro e w9 ⟨rfl, ha⟩; have ⟨_, _, _, d3, _⟩ := act_at (HC.out w9 ha.bel); simp only at d3; have du := ha.arrK hk; have HA9 := Lib.hid ha; clear ha)
                | (go_at_call 12; (with_reducible refine (allUFeed HA9.out hk xb ⟨hb0, hb1⟩).mono ?_); rintro e w10 ⟨rfl, ha⟩; have ⟨_, _, _, e3, _⟩ := act_at (HC.out w10 ha.bel); simp only at e3; have eu := ha.arrK hk; have HA10 := Lib.hid ha; clear ha))
            rename (_ ∧ _) => hheld
            clear hheld q0 q1 q2 q3 q4 d3 du e3 eu hu
            go_wp2
            go_meet
            exact ⟨_, HA10.out⟩
        · have f0 : (xd == 0) = false := by rw [beq_eq_false_iff_ne]; exact hd0
          have f1 : (xd == 1) = false := by rw [beq_eq_false_iff_ne]; exact hd1
          have f2 : (xd == 2) = false := by rw [beq_eq_false_iff_ne]; exact hd2
          clear hd0 hd1 hd2 q1 q2 q3 q4 hu
          go_wp2
          go_meet
          exact ⟨t, by rw [actS_same]; exact HA.out⟩
      case rest =>
        obtain ⟨t2, hO⟩ := hcut
        unfold actS at hO
        have HLO := hO.lo hk
        have HSTR : Hid (∀ wx v, U6.RowB wx v (t2 k).out → (convert 39 9 v).run Tryd.prog wx = .ok (.string (strOfNums (t2 k).out)) wx) := Lib.hid fun wx v hv => U6.conv_row hv HLO
        clear HLO q0 q1 q2 q3 q4 hu HA HAD HC HIN HRI R3 hki hra hrt ra0 ra1 hr0 hr1
        have hi0 : U6.lineU (t2 0) = true → (U6.lineU (t 0) || U6.lineU (t2 0)) = true := fun h => by rw [h, Bool.or_true]
        have hi1 : U6.lineU (t2 1) = true → (U6.lineU (t 1) || U6.lineU (t2 1)) = true := fun h => by rw [h, Bool.or_true]
        generalize (U6.lineU (t 0) || U6.lineU (t2 0)) = e0 at hO hi0
        generalize (U6.lineU (t 1) || U6.lineU (t2 1)) = e1 at hO hi1
        have HAX : Hid (∀ wx, Below wc.heap.size wc wx → All w b g vp ul ub ua (dst mz cl0 t2 e0 e1 false false) t2 wx) := Lib.hid fun wx hx => hO.later hx
        have HOB : Hid (∀ wx, Below wc.heap.size wc wx → Calls Tryd.prog 13 #[.pointer (some ⟨b, 0, none⟩), .int .i64 k] wx (OutE wx (t2 k).out)) := Lib.hid fun wx hx => by have h := allOut (hO.later hx) k; rw [out_is k hk] at h; exact h
        have HOU : Hid (∀ wx, Below wc.heap.size wc wx → Calls Tryd.prog 14 #[.pointer (some ⟨ua k, 0, none⟩)] wx (U6.CloneE wx (t2 k).out)) := Lib.hid fun wx hx => allUOut (hO.later hx) hk
        clear hO
        generalize strOfNums (t2 k).out = sO at *
        generalize (t2 k).out = xo at *
        cases hl0 : U6.lineU (t2 0) <;> cases hl1 : U6.lineU (t2 1) <;> cases e0 <;> cases e1
        · as_aux_lemma =>
            clear hi0 hi1
            go_wp2_with fail
            refine wp_region_held_drew (S := fun wx => Below wc.heap.size wc wx) (by kernel_rfl) ((Below.refl _ _).drew) (fun hHeld0 => ?_)
            have HS := Lib.hid hHeld0
            clear hHeld0
            refine takeD (i := 0) (some 185) (v := ?_) rfl rfl (by kernel_rfl) (by kernel_rfl) (by kernel_rfl) (fun _ _ _ h => h) (by rfl) HS.out ?_ ?_
            rotate_left
            · intro wx hSx
              clear hSx
              go_simp
              try (with_reducible rfl)
            simp only [Act.put, List.setIfInBounds_toArray, List.set_cons_zero, List.set_cons_succ]
            refine takeD (i := 1) (some 186) (v := ?_) rfl rfl (by kernel_rfl) (by kernel_rfl) (by kernel_rfl) (fun _ _ _ h => h) (by rfl) HS.out ?_ ?_
            rotate_left
            · intro wx hSx
              clear hSx
              go_simp
              try (with_reducible rfl)
            simp only [Act.put, List.setIfInBounds_toArray, List.set_cons_zero, List.set_cons_succ]
            refine takeD (i := 4) (some 189) (v := ?_) rfl rfl (by kernel_rfl) (by kernel_rfl) (by kernel_rfl) (fun _ _ _ h => h) (by rfl) HS.out ?_ ?_
            rotate_left
            · intro wx hSx
              clear hSx
              go_simp
              try (with_reducible rfl)
            simp only [Act.put, List.setIfInBounds_toArray, List.set_cons_zero, List.set_cons_succ]
            refine takeD (i := 5) (some 190) (v := ?_) rfl rfl (by kernel_rfl) (by kernel_rfl) (by kernel_rfl) (fun _ _ _ h => h) (by rfl) HS.out ?_ ?_
            rotate_left
            · intro wx hSx
              clear hSx
              go_simp
              try (with_reducible rfl)
            simp only [Act.put, List.setIfInBounds_toArray, List.set_cons_zero, List.set_cons_succ]
            refine takeD (i := 6) (some 191) (v := ?_) rfl rfl (by kernel_rfl) (by kernel_rfl) (by kernel_rfl) (fun _ _ _ h => h) (by rfl) HS.out ?_ ?_
            rotate_left
            · intro wx hSx
              have uk := (HAX.out _ hSx).arrK hk
              clear hSx
              go_simp
              try (with_reducible rfl)
            simp only [Act.put, List.setIfInBounds_toArray, List.set_cons_zero, List.set_cons_succ]
            refine wpAnyH_ready (rs := [2]) (by kernel_rfl) (by simp) ?_
            refine AllReadyH.cons rfl (fun K hK => ?_) AllReadyH.nil
            go_simp
            (with_reducible refine (HOB.out _ HS.out).mono ?_)
            rintro e w5 ⟨a5, c5, rfl, hb5, hr5⟩
            have HB5 : Hid (Below wc.heap.size wc w5) := Lib.hid (HS.out.trans (hb5.mono HS.out.size))
            have HCV5 : Hid (∀ wx, Below w5.heap.size w5 wx → (convert 39 9 (.slice a5 xo.length c5)).run Tryd.prog wx = .ok (.string sO) wx) := Lib.hid fun wx hx => HSTR.out wx _ (hr5.below hx)
            clear hb5 hr5
            go_simp
            refine hK.out _ _ ?_ (fun hHeld => ?_)
            · exact HB5.out
            clear hHeld hK K
            try simp only [Act.put, List.setIfInBounds_toArray, List.set_cons_zero, List.set_cons_succ]
            replace HS := HB5
            refine wpAnyH_more (T := fun wx => Below w5.heap.size w5 wx) (fun wx hx => HB5.out.trans (hx.mono HB5.out.size)) _ _ _ _ ?_
            replace HS : Hid (Below w5.heap.size w5 w5) := Lib.hid (Below.refl _ _)
            refine takeD (i := 3) (some 188) (v := ?_) rfl rfl (by kernel_rfl) (by kernel_rfl) (by kernel_rfl) (fun _ _ _ h => h) (by rfl) HS.out ?_ ?_
            rotate_left
            · intro wx hSx
              have hcv := HCV5.out wx hSx
              clear hSx
              go_simp
              try (with_reducible rfl)
            simp only [Act.put, List.setIfInBounds_toArray, List.set_cons_zero, List.set_cons_succ]
            refine wpAnyH_ready (rs := [7]) (by kernel_rfl) (by simp) ?_
            refine AllReadyH.cons rfl (fun K hK => ?_) AllReadyH.nil
            go_simp
            (with_reducible refine (HOU.out _ (HB5.out.trans (HS.out.mono HB5.out.size))).mono ?_)
            rintro e w6 ⟨a6, c6, rfl, hb6, hr6, _⟩
            have HB56 : Hid (Below w5.heap.size w5 w6) := Lib.hid (HS.out.trans (hb6.mono HS.out.size))
            have HB6 : Hid (Below wc.heap.size wc w6) := Lib.hid (HB5.out.trans (HB56.out.mono HB5.out.size))
            have HCV6 : Hid (∀ wx, Below w6.heap.size w6 wx → (convert 39 9 (.slice a6 xo.length c6)).run Tryd.prog wx = .ok (.string sO) wx) := Lib.hid fun wx hx => HSTR.out wx _ (hr6.below hx)
            clear hb6 hr6
            go_simp
            refine hK.out _ _ ?_ (fun hHeld => ?_)
            · exact HB56.out
            clear hHeld hK K
            try simp only [Act.put, List.setIfInBounds_toArray, List.set_cons_zero, List.set_cons_succ]
            replace HS := HB56
            refine wpAnyH_more (T := fun wx => Below w6.heap.size w6 wx) (fun wx hx => HB56.out.trans (hx.mono HB56.out.size)) _ _ _ _ ?_
            replace HS : Hid (Below w6.heap.size w6 w6) := Lib.hid (Below.refl _ _)
            refine takeD (i := 8) (some 193) (v := ?_) rfl rfl (by kernel_rfl) (by kernel_rfl) (by kernel_rfl) (fun _ _ _ h => h) (by rfl) HS.out ?_ ?_
            rotate_left
            · intro wx hSx
              have hcv := HCV6.out wx hSx
              clear hSx
              go_simp
              try (with_reducible rfl)
            simp only [Act.put, List.setIfInBounds_toArray, List.set_cons_zero, List.set_cons_succ]
            refine takeD (i := 9) (some 194) (v := ?_) rfl rfl (by kernel_rfl) (by kernel_rfl) (by kernel_rfl) (fun _ _ _ h => h) (by rfl) HS.out ?_ ?_
            rotate_left
            · intro wx hSx
              clear hSx
              go_simp
              try (with_reducible rfl)
            simp only [Act.put, List.setIfInBounds_toArray, List.set_cons_zero, List.set_cons_succ]
            refine takeD (i := 10) (some 195) (v := ?_) rfl rfl (by kernel_rfl) (by kernel_rfl) (by kernel_rfl) (fun _ _ _ h => h) (by rfl) HS.out ?_ ?_
            rotate_left
            · intro wx hSx
              clear hSx
              go_simp
              try (with_reducible rfl)
            simp only [Act.put, List.setIfInBounds_toArray, List.set_cons_zero, List.set_cons_succ]
            refine takeD (i := 11) (some 196) (v := ?_) rfl rfl (by kernel_rfl) (by kernel_rfl) (by kernel_rfl) (fun _ _ _ h => h) (by rfl) HS.out ?_ ?_
            rotate_left
            · intro wx hSx
              clear hSx
              go_simp
              try (with_reducible rfl)
            simp only [Act.put, List.setIfInBounds_toArray, List.set_cons_zero, List.set_cons_succ]
            refine takeD (i := 12) (some 197) (v := ?_) rfl rfl (by kernel_rfl) (by kernel_rfl) (by kernel_rfl) (fun _ _ _ h => h) (by rfl) HS.out ?_ ?_
            rotate_left
            · intro wx hSx
              obtain ⟨u0c, u1c⟩ := (HAX.out _ (HB6.out.trans (hSx.mono HB6.out.size))).arr
              clear hSx
              go_simp
              try (with_reducible rfl)
            simp only [Act.put, List.setIfInBounds_toArray, List.set_cons_zero, List.set_cons_succ]
            refine wpAnyH_ready (rs := [13]) (by kernel_rfl) (by simp) ?_
            refine AllReadyH.cons rfl (fun K hK => ?_) AllReadyH.nil
            go_simp
            (with_reducible refine (allLineQ (HAX.out _ (HB6.out.trans (HS.out.mono HB6.out.size))) (show 0 < 2 by omega) false hl0).mono ?_)
            rintro e wq ⟨rfl, rfl⟩
            go_simp
            refine hK.out _ _ ?_ (fun hHeld => ?_)
            · exact HS.out
            clear hHeld hK K
            try simp only [Act.put, List.setIfInBounds_toArray, List.set_cons_zero, List.set_cons_succ]
            refine takeD (i := 14) (some 199) (v := ?_) rfl rfl (by kernel_rfl) (by kernel_rfl) (by kernel_rfl) (fun _ _ _ h => h) (by rfl) HS.out ?_ ?_
            rotate_left
            · intro wx hSx
              clear hSx
              go_simp
              try (with_reducible rfl)
            simp only [Act.put, List.setIfInBounds_toArray, List.set_cons_zero, List.set_cons_succ]
            refine takeD (i := 15) (some 200) (v := ?_) rfl rfl (by kernel_rfl) (by kernel_rfl) (by kernel_rfl) (fun _ _ _ h => h) (by rfl) HS.out ?_ ?_
            rotate_left
            · intro wx hSx
              clear hSx
              go_simp
              try (with_reducible rfl)
            simp only [Act.put, List.setIfInBounds_toArray, List.set_cons_zero, List.set_cons_succ]
            refine takeD (i := 16) (some 201) (v := ?_) rfl rfl (by kernel_rfl) (by kernel_rfl) (by kernel_rfl) (fun _ _ _ h => h) (by rfl) HS.out ?_ ?_
            rotate_left
            · intro wx hSx
              obtain ⟨u0c, u1c⟩ := (HAX.out _ (HB6.out.trans (hSx.mono HB6.out.size))).arr
              clear hSx
              go_simp
              try (with_reducible rfl)
            simp only [Act.put, List.setIfInBounds_toArray, List.set_cons_zero, List.set_cons_succ]
            refine wpAnyH_ready (rs := [17]) (by kernel_rfl) (by simp) ?_
            refine AllReadyH.cons rfl (fun K hK => ?_) AllReadyH.nil
            go_simp
            (with_reducible refine (allLineQ (HAX.out _ (HB6.out.trans (HS.out.mono HB6.out.size))) (show 1 < 2 by omega) false hl1).mono ?_)
            rintro e wq ⟨rfl, rfl⟩
            go_simp
            refine hK.out _ _ ?_ (fun hHeld => ?_)
            · exact HS.out
            clear hHeld hK K
            try simp only [Act.put, List.setIfInBounds_toArray, List.set_cons_zero, List.set_cons_succ]
            refine takeD (i := 18) (some 203) (v := ?_) rfl rfl (by kernel_rfl) (by kernel_rfl) (by kernel_rfl) (fun _ _ _ h => h) (by rfl) HS.out ?_ ?_
            rotate_left
            · intro wx hSx
              clear hSx
              go_simp
              try (with_reducible rfl)
            simp only [Act.put, List.setIfInBounds_toArray, List.set_cons_zero, List.set_cons_succ]
            refine takeD (i := 19) (some 204) (v := ?_) rfl rfl (by kernel_rfl) (by kernel_rfl) (by kernel_rfl) (fun _ _ _ h => h) (by rfl) HS.out ?_ ?_
            rotate_left
            · intro wx hSx
              clear hSx
              go_simp
              try (with_reducible rfl)
            simp only [Act.put, List.setIfInBounds_toArray, List.set_cons_zero, List.set_cons_succ]
            refine skipD (i := 20) (some 205) rfl rfl (by kernel_rfl) (by kernel_rfl) (by kernel_rfl) (fun _ _ _ h => h) (by rfl) HS.out ?_
            simp only [Act.put, List.setIfInBounds_toArray, List.set_cons_zero, List.set_cons_succ]
            refine skipD (i := 21) (some 206) rfl rfl (by kernel_rfl) (by kernel_rfl) (by kernel_rfl) (fun _ _ _ h => h) (by rfl) HS.out ?_
            simp only [Act.put, List.setIfInBounds_toArray, List.set_cons_zero, List.set_cons_succ]
            refine skipD (i := 22) (some 207) rfl rfl (by kernel_rfl) (by kernel_rfl) (by kernel_rfl) (fun _ _ _ h => h) (by rfl) HS.out ?_
            simp only [Act.put, List.setIfInBounds_toArray, List.set_cons_zero, List.set_cons_succ]
            refine skipD (i := 23) (some 208) rfl rfl (by kernel_rfl) (by kernel_rfl) (by kernel_rfl) (fun _ _ _ h => h) (by rfl) HS.out ?_
            simp only [Act.put, List.setIfInBounds_toArray, List.set_cons_zero, List.set_cons_succ]
            refine takeD (i := 24) (some 209) (v := ?_) rfl rfl (by kernel_rfl) (by kernel_rfl) (by kernel_rfl) (fun _ _ _ h => h) (by rfl) HS.out ?_ ?_
            rotate_left
            · intro wx hSx
              clear hSx
              go_simp
              try (with_reducible rfl)
            simp only [Act.put, List.setIfInBounds_toArray, List.set_cons_zero, List.set_cons_succ]
            refine takeD (i := 25) (some 210) (v := ?_) rfl rfl (by kernel_rfl) (by kernel_rfl) (by kernel_rfl) (fun _ _ _ h => h) (by rfl) HS.out ?_ ?_
            rotate_left
            · intro wx hSx
              clear hSx
              go_simp
              try (with_reducible rfl)
            simp only [Act.put, List.setIfInBounds_toArray, List.set_cons_zero, List.set_cons_succ]
            refine wpAnyH_done (by kernel_rfl) ?_ _
            have HR := Lib.hid (HAX.out w6 HB6.out)
            clear HOB HOU HAX HSTR HS
            obtain ⟨u0c, u1c⟩ := HR.out.arr
            go_wp2_with fail
            (with_reducible refine (allRead HR.out 203427844 4 (by unfold In64; omega) 0 true (dst mz cl0 t2 false false false false) (claim_0 mz cl0 t2 false false)).mono ?_)
            rintro e x1 ⟨rfl, ha⟩
            have H1 := Lib.hid ha
            clear u0c u1c
            obtain ⟨u0c, u1c⟩ := ha.arr
            clear ha
            go_wp2_with fail
            (with_reducible refine (allRead H1.out 203427844 4 (by unfold In64; omega) 0 true (dst mz cl0 t2 false false false false) (claim_0 mz cl0 t2 false false)).mono ?_)
            rintro e x2 ⟨rfl, ha⟩
            have H2 := Lib.hid ha
            clear u0c u1c
            obtain ⟨u0c, u1c⟩ := ha.arr
            clear ha
            go_wp2_with fail
            (with_reducible refine (allLinesQ H2.out false rfl).mono ?_)
            rintro e x3 ⟨p0, p1, p2, p4, p5, rfl, hb⟩
            have H3 := Lib.hid (H2.out.later hb)
            clear u0c u1c
            obtain ⟨u0c, u1c⟩ := H3.out.arr
            have hfd := fun wx => field_seip p0 p1 p2 false p4 p5 wx
            clear hb
            go_wp2_with fail
            (with_reducible refine (allLineQ H3.out (show 0 < 2 by omega) false hl0).mono ?_)
            rintro e wq ⟨rfl, rfl⟩
            go_wp2_with fail
            (with_reducible refine (allLineQ H3.out (show 1 < 2 by omega) false hl1).mono ?_)
            rintro e wq ⟨rfl, rfl⟩
            clear hfd
            go_wp2_with fail
            (with_reducible refine (allWrite H3.out 203427844 4 0 (by unfold In64; omega) (by unfold In64; omega) true (dst mz cl0 t2 false false false false) (done_0 mz cl0 t2 false false false false)).mono ?_)
            rintro e x4 ⟨rfl, ha⟩
            have H4 := Lib.hid ha
            clear u0c u1c
            obtain ⟨u0c, u1c⟩ := ha.arr
            clear ha
            go_wp2_with fail
            (with_reducible refine (allWrite H4.out 203427844 4 0 (by unfold In64; omega) (by unfold In64; omega) true (dst mz cl0 t2 false false false false) (done_0 mz cl0 t2 false false false false)).mono ?_)
            rintro e x5 ⟨rfl, ha⟩
            have H5 := Lib.hid ha
            clear u0c u1c
            obtain ⟨u0c, u1c⟩ := ha.arr
            clear ha
            have HAX : Hid (∀ wx, Below x5.heap.size x5 wx → All w b g vp ul ub ua (dst mz cl0 t2 false false false false) t2 wx) := Lib.hid fun wx hx => H5.out.later hx
            clear u0c u1c
            go_wp2_with fail
            refine wp_region_held_drew (S := fun wx => Below x5.heap.size x5 wx) (by kernel_rfl) ((Below.refl _ _).drew) (fun hHeld0 => ?_)
            have HS := Lib.hid hHeld0
            clear hHeld0
            refine takeD (i := 0) (some 260) (v := ?_) rfl rfl (by kernel_rfl) (by kernel_rfl) (by kernel_rfl) (fun _ _ _ h => h) (by rfl) HS.out ?_ ?_
            rotate_left
            · intro wx hSx
              clear hSx
              go_simp
              try (with_reducible rfl)
            simp only [Act.put, List.setIfInBounds_toArray, List.set_cons_zero, List.set_cons_succ]
            refine takeD (i := 3) (some 263) (v := ?_) rfl rfl (by kernel_rfl) (by kernel_rfl) (by kernel_rfl) (fun _ _ _ h => h) (by rfl) HS.out ?_ ?_
            rotate_left
            · intro wx hSx
              clear hSx
              go_simp
              try (with_reducible rfl)
            simp only [Act.put, List.setIfInBounds_toArray, List.set_cons_zero, List.set_cons_succ]
            refine takeD (i := 4) (some 264) (v := ?_) rfl rfl (by kernel_rfl) (by kernel_rfl) (by kernel_rfl) (fun _ _ _ h => h) (by rfl) HS.out ?_ ?_
            rotate_left
            · intro wx hSx
              obtain ⟨u0c, u1c⟩ := (HAX.out _ hSx).arr
              clear hSx
              go_simp
              try (with_reducible rfl)
            simp only [Act.put, List.setIfInBounds_toArray, List.set_cons_zero, List.set_cons_succ]
            refine wpAnyH_ready (rs := [1]) (by kernel_rfl) (by simp) ?_
            refine AllReadyH.cons rfl (fun K hK => ?_) AllReadyH.nil
            go_simp
            (with_reducible refine (allLinesQ (HAX.out _ HS.out) false rfl).mono ?_)
            rintro e x6 ⟨p0, p1, p2, p4, p5, rfl, hb⟩
            have HB6 : Hid (Below x5.heap.size x5 x6) := Lib.hid (HS.out.trans (hb.mono HS.out.size))
            clear hb
            go_simp
            refine hK.out _ _ ?_ (fun hHeld => ?_)
            · exact HB6.out
            clear hHeld hK K
            try simp only [Act.put, List.setIfInBounds_toArray, List.set_cons_zero, List.set_cons_succ]
            replace HS := HB6
            refine wpAnyH_more (T := fun wx => Below x6.heap.size x6 wx) (fun wx hx => HB6.out.trans (hx.mono HB6.out.size)) _ _ _ _ ?_
            replace HS : Hid (Below x6.heap.size x6 x6) := Lib.hid (Below.refl _ _)
            refine takeD (i := 2) (some 262) (v := ?_) rfl rfl (by kernel_rfl) (by kernel_rfl) (by kernel_rfl) (fun _ _ _ h => h) (by rfl) HS.out ?_ ?_
            rotate_left
            · intro wx hSx
              have hfd := field_seip p0 p1 p2 false p4 p5 wx
              clear hSx
              go_simp
              try (with_reducible rfl)
            simp only [Act.put, List.setIfInBounds_toArray, List.set_cons_zero, List.set_cons_succ]
            refine wpAnyH_ready (rs := [5]) (by kernel_rfl) (by simp) ?_
            refine AllReadyH.cons rfl (fun K hK => ?_) AllReadyH.nil
            go_simp
            (with_reducible refine (allLineQ (HAX.out _ (HB6.out.trans (HS.out.mono HB6.out.size))) (show 0 < 2 by omega) false hl0).mono ?_)
            rintro e wq ⟨rfl, rfl⟩
            go_simp
            refine hK.out _ _ ?_ (fun hHeld => ?_)
            · exact HS.out
            clear hHeld hK K
            try simp only [Act.put, List.setIfInBounds_toArray, List.set_cons_zero, List.set_cons_succ]
            refine takeD (i := 6) (some 266) (v := ?_) rfl rfl (by kernel_rfl) (by kernel_rfl) (by kernel_rfl) (fun _ _ _ h => h) (by rfl) HS.out ?_ ?_
            rotate_left
            · intro wx hSx
              clear hSx
              go_simp
              try (with_reducible rfl)
            simp only [Act.put, List.setIfInBounds_toArray, List.set_cons_zero, List.set_cons_succ]
            refine takeD (i := 7) (some 267) (v := ?_) rfl rfl (by kernel_rfl) (by kernel_rfl) (by kernel_rfl) (fun _ _ _ h => h) (by rfl) HS.out ?_ ?_
            rotate_left
            · intro wx hSx
              clear hSx
              go_simp
              try (with_reducible rfl)
            simp only [Act.put, List.setIfInBounds_toArray, List.set_cons_zero, List.set_cons_succ]
            refine takeD (i := 8) (some 268) (v := ?_) rfl rfl (by kernel_rfl) (by kernel_rfl) (by kernel_rfl) (fun _ _ _ h => h) (by rfl) HS.out ?_ ?_
            rotate_left
            · intro wx hSx
              obtain ⟨u0c, u1c⟩ := (HAX.out _ (HB6.out.trans (hSx.mono HB6.out.size))).arr
              clear hSx
              go_simp
              try (with_reducible rfl)
            simp only [Act.put, List.setIfInBounds_toArray, List.set_cons_zero, List.set_cons_succ]
            refine wpAnyH_ready (rs := [9]) (by kernel_rfl) (by simp) ?_
            refine AllReadyH.cons rfl (fun K hK => ?_) AllReadyH.nil
            go_simp
            (with_reducible refine (allLineQ (HAX.out _ (HB6.out.trans (HS.out.mono HB6.out.size))) (show 1 < 2 by omega) false hl1).mono ?_)
            rintro e wq ⟨rfl, rfl⟩
            go_simp
            refine hK.out _ _ ?_ (fun hHeld => ?_)
            · exact HS.out
            clear hHeld hK K
            try simp only [Act.put, List.setIfInBounds_toArray, List.set_cons_zero, List.set_cons_succ]
            refine takeD (i := 10) (some 270) (v := ?_) rfl rfl (by kernel_rfl) (by kernel_rfl) (by kernel_rfl) (fun _ _ _ h => h) (by rfl) HS.out ?_ ?_
            rotate_left
            · intro wx hSx
              clear hSx
              go_simp
              try (with_reducible rfl)
            simp only [Act.put, List.setIfInBounds_toArray, List.set_cons_zero, List.set_cons_succ]
            refine takeD (i := 11) (some 271) (v := ?_) rfl rfl (by kernel_rfl) (by kernel_rfl) (by kernel_rfl) (fun _ _ _ h => h) (by rfl) HS.out ?_ ?_
            rotate_left
            · intro wx hSx
              clear hSx
              go_simp
              try (with_reducible rfl)
            simp only [Act.put, List.setIfInBounds_toArray, List.set_cons_zero, List.set_cons_succ]
            refine wpAnyH_done (by kernel_rfl) ?_ _
            have HF := Lib.hid (HAX.out x6 HB6.out)
            clear HAX HS
            go_wp2
            go_roundg gg
            case measure => omega
            case rel => exact ⟨j + 1, by omega, by go_num, t2, by rw [← idle_is mz cl0 t2 false false hl0 hl1]; exact HF.out⟩
        · as_aux_lemma =>
            clear hi0 hi1
            go_wp2_with fail
            refine wp_region_held_drew (S := fun wx => Below wc.heap.size wc wx) (by kernel_rfl) ((Below.refl _ _).drew) (fun hHeld0 => ?_)
            have HS := Lib.hid hHeld0
            clear hHeld0
            refine takeD (i := 0) (some 185) (v := ?_) rfl rfl (by kernel_rfl) (by kernel_rfl) (by kernel_rfl) (fun _ _ _ h => h) (by rfl) HS.out ?_ ?_
            rotate_left
            · intro wx hSx
              clear hSx
              go_simp
              try (with_reducible rfl)
            simp only [Act.put, List.setIfInBounds_toArray, List.set_cons_zero, List.set_cons_succ]
            refine takeD (i := 1) (some 186) (v := ?_) rfl rfl (by kernel_rfl) (by kernel_rfl) (by kernel_rfl) (fun _ _ _ h => h) (by rfl) HS.out ?_ ?_
            rotate_left
            · intro wx hSx
              clear hSx
              go_simp
              try (with_reducible rfl)
            simp only [Act.put, List.setIfInBounds_toArray, List.set_cons_zero, List.set_cons_succ]
            refine takeD (i := 4) (some 189) (v := ?_) rfl rfl (by kernel_rfl) (by kernel_rfl) (by kernel_rfl) (fun _ _ _ h => h) (by rfl) HS.out ?_ ?_
            rotate_left
            · intro wx hSx
              clear hSx
              go_simp
              try (with_reducible rfl)
            simp only [Act.put, List.setIfInBounds_toArray, List.set_cons_zero, List.set_cons_succ]
            refine takeD (i := 5) (some 190) (v := ?_) rfl rfl (by kernel_rfl) (by kernel_rfl) (by kernel_rfl) (fun _ _ _ h => h) (by rfl) HS.out ?_ ?_
            rotate_left
            · intro wx hSx
              clear hSx
              go_simp
              try (with_reducible rfl)
            simp only [Act.put, List.setIfInBounds_toArray, List.set_cons_zero, List.set_cons_succ]
            refine takeD (i := 6) (some 191) (v := ?_) rfl rfl (by kernel_rfl) (by kernel_rfl) (by kernel_rfl) (fun _ _ _ h => h) (by rfl) HS.out ?_ ?_
            rotate_left
            · intro wx hSx
              have uk := (HAX.out _ hSx).arrK hk
              clear hSx
              go_simp
              try (with_reducible rfl)
            simp only [Act.put, List.setIfInBounds_toArray, List.set_cons_zero, List.set_cons_succ]
            refine wpAnyH_ready (rs := [2]) (by kernel_rfl) (by simp) ?_
            refine AllReadyH.cons rfl (fun K hK => ?_) AllReadyH.nil
            go_simp
            (with_reducible refine (HOB.out _ HS.out).mono ?_)
            rintro e w5 ⟨a5, c5, rfl, hb5, hr5⟩
            have HB5 : Hid (Below wc.heap.size wc w5) := Lib.hid (HS.out.trans (hb5.mono HS.out.size))
            have HCV5 : Hid (∀ wx, Below w5.heap.size w5 wx → (convert 39 9 (.slice a5 xo.length c5)).run Tryd.prog wx = .ok (.string sO) wx) := Lib.hid fun wx hx => HSTR.out wx _ (hr5.below hx)
            clear hb5 hr5
            go_simp
            refine hK.out _ _ ?_ (fun hHeld => ?_)
            · exact HB5.out
            clear hHeld hK K
            try simp only [Act.put, List.setIfInBounds_toArray, List.set_cons_zero, List.set_cons_succ]
            replace HS := HB5
            refine wpAnyH_more (T := fun wx => Below w5.heap.size w5 wx) (fun wx hx => HB5.out.trans (hx.mono HB5.out.size)) _ _ _ _ ?_
            replace HS : Hid (Below w5.heap.size w5 w5) := Lib.hid (Below.refl _ _)
            refine takeD (i := 3) (some 188) (v := ?_) rfl rfl (by kernel_rfl) (by kernel_rfl) (by kernel_rfl) (fun _ _ _ h => h) (by rfl) HS.out ?_ ?_
            rotate_left
            · intro wx hSx
              have hcv := HCV5.out wx hSx
              clear hSx
              go_simp
              try (with_reducible rfl)
            simp only [Act.put, List.setIfInBounds_toArray, List.set_cons_zero, List.set_cons_succ]
            refine wpAnyH_ready (rs := [7]) (by kernel_rfl) (by simp) ?_
            refine AllReadyH.cons rfl (fun K hK => ?_) AllReadyH.nil
            go_simp
            (with_reducible refine (HOU.out _ (HB5.out.trans (HS.out.mono HB5.out.size))).mono ?_)
            rintro e w6 ⟨a6, c6, rfl, hb6, hr6, _⟩
            have HB56 : Hid (Below w5.heap.size w5 w6) := Lib.hid (HS.out.trans (hb6.mono HS.out.size))
            have HB6 : Hid (Below wc.heap.size wc w6) := Lib.hid (HB5.out.trans (HB56.out.mono HB5.out.size))
            have HCV6 : Hid (∀ wx, Below w6.heap.size w6 wx → (convert 39 9 (.slice a6 xo.length c6)).run Tryd.prog wx = .ok (.string sO) wx) := Lib.hid fun wx hx => HSTR.out wx _ (hr6.below hx)
            clear hb6 hr6
            go_simp
            refine hK.out _ _ ?_ (fun hHeld => ?_)
            · exact HB56.out
            clear hHeld hK K
            try simp only [Act.put, List.setIfInBounds_toArray, List.set_cons_zero, List.set_cons_succ]
            replace HS := HB56
            refine wpAnyH_more (T := fun wx => Below w6.heap.size w6 wx) (fun wx hx => HB56.out.trans (hx.mono HB56.out.size)) _ _ _ _ ?_
            replace HS : Hid (Below w6.heap.size w6 w6) := Lib.hid (Below.refl _ _)
            refine takeD (i := 8) (some 193) (v := ?_) rfl rfl (by kernel_rfl) (by kernel_rfl) (by kernel_rfl) (fun _ _ _ h => h) (by rfl) HS.out ?_ ?_
            rotate_left
            · intro wx hSx
              have hcv := HCV6.out wx hSx
              clear hSx
              go_simp
              try (with_reducible rfl)
            simp only [Act.put, List.setIfInBounds_toArray, List.set_cons_zero, List.set_cons_succ]
            refine takeD (i := 9) (some 194) (v := ?_) rfl rfl (by kernel_rfl) (by kernel_rfl) (by kernel_rfl) (fun _ _ _ h => h) (by rfl) HS.out ?_ ?_
            rotate_left
            · intro wx hSx
              clear hSx
              go_simp
              try (with_reducible rfl)
            simp only [Act.put, List.setIfInBounds_toArray, List.set_cons_zero, List.set_cons_succ]
            refine takeD (i := 10) (some 195) (v := ?_) rfl rfl (by kernel_rfl) (by kernel_rfl) (by kernel_rfl) (fun _ _ _ h => h) (by rfl) HS.out ?_ ?_
            rotate_left
            · intro wx hSx
              clear hSx
              go_simp
              try (with_reducible rfl)
            simp only [Act.put, List.setIfInBounds_toArray, List.set_cons_zero, List.set_cons_succ]
            refine takeD (i := 11) (some 196) (v := ?_) rfl rfl (by kernel_rfl) (by kernel_rfl) (by kernel_rfl) (fun _ _ _ h => h) (by rfl) HS.out ?_ ?_
            rotate_left
            · intro wx hSx
              clear hSx
              go_simp
              try (with_reducible rfl)
            simp only [Act.put, List.setIfInBounds_toArray, List.set_cons_zero, List.set_cons_succ]
            refine takeD (i := 12) (some 197) (v := ?_) rfl rfl (by kernel_rfl) (by kernel_rfl) (by kernel_rfl) (fun _ _ _ h => h) (by rfl) HS.out ?_ ?_
            rotate_left
            · intro wx hSx
              obtain ⟨u0c, u1c⟩ := (HAX.out _ (HB6.out.trans (hSx.mono HB6.out.size))).arr
              clear hSx
              go_simp
              try (with_reducible rfl)
            simp only [Act.put, List.setIfInBounds_toArray, List.set_cons_zero, List.set_cons_succ]
            refine wpAnyH_ready (rs := [13]) (by kernel_rfl) (by simp) ?_
            refine AllReadyH.cons rfl (fun K hK => ?_) AllReadyH.nil
            go_simp
            (with_reducible refine (allLineQ (HAX.out _ (HB6.out.trans (HS.out.mono HB6.out.size))) (show 0 < 2 by omega) false hl0).mono ?_)
            rintro e wq ⟨rfl, rfl⟩
            go_simp
            refine hK.out _ _ ?_ (fun hHeld => ?_)
            · exact HS.out
            clear hHeld hK K
            try simp only [Act.put, List.setIfInBounds_toArray, List.set_cons_zero, List.set_cons_succ]
            refine takeD (i := 14) (some 199) (v := ?_) rfl rfl (by kernel_rfl) (by kernel_rfl) (by kernel_rfl) (fun _ _ _ h => h) (by rfl) HS.out ?_ ?_
            rotate_left
            · intro wx hSx
              clear hSx
              go_simp
              try (with_reducible rfl)
            simp only [Act.put, List.setIfInBounds_toArray, List.set_cons_zero, List.set_cons_succ]
            refine takeD (i := 15) (some 200) (v := ?_) rfl rfl (by kernel_rfl) (by kernel_rfl) (by kernel_rfl) (fun _ _ _ h => h) (by rfl) HS.out ?_ ?_
            rotate_left
            · intro wx hSx
              clear hSx
              go_simp
              try (with_reducible rfl)
            simp only [Act.put, List.setIfInBounds_toArray, List.set_cons_zero, List.set_cons_succ]
            refine takeD (i := 16) (some 201) (v := ?_) rfl rfl (by kernel_rfl) (by kernel_rfl) (by kernel_rfl) (fun _ _ _ h => h) (by rfl) HS.out ?_ ?_
            rotate_left
            · intro wx hSx
              obtain ⟨u0c, u1c⟩ := (HAX.out _ (HB6.out.trans (hSx.mono HB6.out.size))).arr
              clear hSx
              go_simp
              try (with_reducible rfl)
            simp only [Act.put, List.setIfInBounds_toArray, List.set_cons_zero, List.set_cons_succ]
            refine wpAnyH_ready (rs := [17]) (by kernel_rfl) (by simp) ?_
            refine AllReadyH.cons rfl (fun K hK => ?_) AllReadyH.nil
            go_simp
            (with_reducible refine (allLineQ (HAX.out _ (HB6.out.trans (HS.out.mono HB6.out.size))) (show 1 < 2 by omega) false hl1).mono ?_)
            rintro e wq ⟨rfl, rfl⟩
            go_simp
            refine hK.out _ _ ?_ (fun hHeld => ?_)
            · exact HS.out
            clear hHeld hK K
            try simp only [Act.put, List.setIfInBounds_toArray, List.set_cons_zero, List.set_cons_succ]
            refine takeD (i := 18) (some 203) (v := ?_) rfl rfl (by kernel_rfl) (by kernel_rfl) (by kernel_rfl) (fun _ _ _ h => h) (by rfl) HS.out ?_ ?_
            rotate_left
            · intro wx hSx
              clear hSx
              go_simp
              try (with_reducible rfl)
            simp only [Act.put, List.setIfInBounds_toArray, List.set_cons_zero, List.set_cons_succ]
            refine takeD (i := 19) (some 204) (v := ?_) rfl rfl (by kernel_rfl) (by kernel_rfl) (by kernel_rfl) (fun _ _ _ h => h) (by rfl) HS.out ?_ ?_
            rotate_left
            · intro wx hSx
              clear hSx
              go_simp
              try (with_reducible rfl)
            simp only [Act.put, List.setIfInBounds_toArray, List.set_cons_zero, List.set_cons_succ]
            refine skipD (i := 20) (some 205) rfl rfl (by kernel_rfl) (by kernel_rfl) (by kernel_rfl) (fun _ _ _ h => h) (by rfl) HS.out ?_
            simp only [Act.put, List.setIfInBounds_toArray, List.set_cons_zero, List.set_cons_succ]
            refine skipD (i := 21) (some 206) rfl rfl (by kernel_rfl) (by kernel_rfl) (by kernel_rfl) (fun _ _ _ h => h) (by rfl) HS.out ?_
            simp only [Act.put, List.setIfInBounds_toArray, List.set_cons_zero, List.set_cons_succ]
            refine skipD (i := 22) (some 207) rfl rfl (by kernel_rfl) (by kernel_rfl) (by kernel_rfl) (fun _ _ _ h => h) (by rfl) HS.out ?_
            simp only [Act.put, List.setIfInBounds_toArray, List.set_cons_zero, List.set_cons_succ]
            refine skipD (i := 23) (some 208) rfl rfl (by kernel_rfl) (by kernel_rfl) (by kernel_rfl) (fun _ _ _ h => h) (by rfl) HS.out ?_
            simp only [Act.put, List.setIfInBounds_toArray, List.set_cons_zero, List.set_cons_succ]
            refine takeD (i := 24) (some 209) (v := ?_) rfl rfl (by kernel_rfl) (by kernel_rfl) (by kernel_rfl) (fun _ _ _ h => h) (by rfl) HS.out ?_ ?_
            rotate_left
            · intro wx hSx
              clear hSx
              go_simp
              try (with_reducible rfl)
            simp only [Act.put, List.setIfInBounds_toArray, List.set_cons_zero, List.set_cons_succ]
            refine takeD (i := 25) (some 210) (v := ?_) rfl rfl (by kernel_rfl) (by kernel_rfl) (by kernel_rfl) (fun _ _ _ h => h) (by rfl) HS.out ?_ ?_
            rotate_left
            · intro wx hSx
              clear hSx
              go_simp
              try (with_reducible rfl)
            simp only [Act.put, List.setIfInBounds_toArray, List.set_cons_zero, List.set_cons_succ]
            refine wpAnyH_done (by kernel_rfl) ?_ _
            have HR := Lib.hid (HAX.out w6 HB6.out)
            clear HOB HOU HAX HSTR HS
            obtain ⟨u0c, u1c⟩ := HR.out.arr
            go_wp2_with fail
            (with_reducible refine (allRead HR.out 203427844 4 (by unfold In64; omega) 11 true (dst mz cl0 t2 false false false true) (claim_11 mz cl0 t2 false false)).mono ?_)
            rintro e x1 ⟨rfl, ha⟩
            have H1 := Lib.hid ha
            clear u0c u1c
            obtain ⟨u0c, u1c⟩ := ha.arr
            clear ha
            go_wp2_with fail
            (with_reducible refine (allRead H1.out 203427844 4 (by unfold In64; omega) 0 true (dst mz cl0 t2 false false false true) (claim_0 mz cl0 t2 false true)).mono ?_)
            rintro e x2 ⟨rfl, ha⟩
            have H2 := Lib.hid ha
            clear u0c u1c
            obtain ⟨u0c, u1c⟩ := ha.arr
            clear ha
            go_wp2_with fail
            (with_reducible refine (allLinesQ H2.out false rfl).mono ?_)
            rintro e x3 ⟨p0, p1, p2, p4, p5, rfl, hb⟩
            have H3 := Lib.hid (H2.out.later hb)
            clear u0c u1c
            obtain ⟨u0c, u1c⟩ := H3.out.arr
            have hfd := fun wx => field_seip p0 p1 p2 false p4 p5 wx
            clear hb
            go_wp2_with fail
            (with_reducible refine (allLineQ H3.out (show 0 < 2 by omega) false hl0).mono ?_)
            rintro e wq ⟨rfl, rfl⟩
            go_wp2_with fail
            (with_reducible refine (allLineQ H3.out (show 1 < 2 by omega) false hl1).mono ?_)
            rintro e wq ⟨rfl, rfl⟩
            clear hfd
            go_wp2_with fail
            (with_reducible refine (allWrite H3.out 203427844 4 11 (by unfold In64; omega) (by unfold In64; omega) true (dst mz cl0 t2 false false false false) (done_11q mz cl0 t2 false false false hl1)).mono ?_)
            rintro e x4 ⟨rfl, ha⟩
            have H4 := Lib.hid ha
            clear u0c u1c
            obtain ⟨u0c, u1c⟩ := ha.arr
            clear ha
            go_wp2_with fail
            (with_reducible refine (allWrite H4.out 203427844 4 0 (by unfold In64; omega) (by unfold In64; omega) true (dst mz cl0 t2 false false false false) (done_0 mz cl0 t2 false false false false)).mono ?_)
            rintro e x5 ⟨rfl, ha⟩
            have H5 := Lib.hid ha
            clear u0c u1c
            obtain ⟨u0c, u1c⟩ := ha.arr
            clear ha
            have HAX : Hid (∀ wx, Below x5.heap.size x5 wx → All w b g vp ul ub ua (dst mz cl0 t2 false false false false) t2 wx) := Lib.hid fun wx hx => H5.out.later hx
            clear u0c u1c
            go_wp2_with fail
            refine wp_region_held_drew (S := fun wx => Below x5.heap.size x5 wx) (by kernel_rfl) ((Below.refl _ _).drew) (fun hHeld0 => ?_)
            have HS := Lib.hid hHeld0
            clear hHeld0
            refine takeD (i := 0) (some 260) (v := ?_) rfl rfl (by kernel_rfl) (by kernel_rfl) (by kernel_rfl) (fun _ _ _ h => h) (by rfl) HS.out ?_ ?_
            rotate_left
            · intro wx hSx
              clear hSx
              go_simp
              try (with_reducible rfl)
            simp only [Act.put, List.setIfInBounds_toArray, List.set_cons_zero, List.set_cons_succ]
            refine takeD (i := 3) (some 263) (v := ?_) rfl rfl (by kernel_rfl) (by kernel_rfl) (by kernel_rfl) (fun _ _ _ h => h) (by rfl) HS.out ?_ ?_
            rotate_left
            · intro wx hSx
              clear hSx
              go_simp
              try (with_reducible rfl)
            simp only [Act.put, List.setIfInBounds_toArray, List.set_cons_zero, List.set_cons_succ]
            refine takeD (i := 4) (some 264) (v := ?_) rfl rfl (by kernel_rfl) (by kernel_rfl) (by kernel_rfl) (fun _ _ _ h => h) (by rfl) HS.out ?_ ?_
            rotate_left
            · intro wx hSx
              obtain ⟨u0c, u1c⟩ := (HAX.out _ hSx).arr
              clear hSx
              go_simp
              try (with_reducible rfl)
            simp only [Act.put, List.setIfInBounds_toArray, List.set_cons_zero, List.set_cons_succ]
            refine wpAnyH_ready (rs := [1]) (by kernel_rfl) (by simp) ?_
            refine AllReadyH.cons rfl (fun K hK => ?_) AllReadyH.nil
            go_simp
            (with_reducible refine (allLinesQ (HAX.out _ HS.out) false rfl).mono ?_)
            rintro e x6 ⟨p0, p1, p2, p4, p5, rfl, hb⟩
            have HB6 : Hid (Below x5.heap.size x5 x6) := Lib.hid (HS.out.trans (hb.mono HS.out.size))
            clear hb
            go_simp
            refine hK.out _ _ ?_ (fun hHeld => ?_)
            · exact HB6.out
            clear hHeld hK K
            try simp only [Act.put, List.setIfInBounds_toArray, List.set_cons_zero, List.set_cons_succ]
            replace HS := HB6
            refine wpAnyH_more (T := fun wx => Below x6.heap.size x6 wx) (fun wx hx => HB6.out.trans (hx.mono HB6.out.size)) _ _ _ _ ?_
            replace HS : Hid (Below x6.heap.size x6 x6) := Lib.hid (Below.refl _ _)
            refine takeD (i := 2) (some 262) (v := ?_) rfl rfl (by kernel_rfl) (by kernel_rfl) (by kernel_rfl) (fun _ _ _ h => h) (by rfl) HS.out ?_ ?_
            rotate_left
            · intro wx hSx
              have hfd := field_seip p0 p1 p2 false p4 p5 wx
              clear hSx
              go_simp
              try (with_reducible rfl)
            simp only [Act.put, List.setIfInBounds_toArray, List.set_cons_zero, List.set_cons_succ]
            refine wpAnyH_ready (rs := [5]) (by kernel_rfl) (by simp) ?_
            refine AllReadyH.cons rfl (fun K hK => ?_) AllReadyH.nil
            go_simp
            (with_reducible refine (allLineQ (HAX.out _ (HB6.out.trans (HS.out.mono HB6.out.size))) (show 0 < 2 by omega) false hl0).mono ?_)
            rintro e wq ⟨rfl, rfl⟩
            go_simp
            refine hK.out _ _ ?_ (fun hHeld => ?_)
            · exact HS.out
            clear hHeld hK K
            try simp only [Act.put, List.setIfInBounds_toArray, List.set_cons_zero, List.set_cons_succ]
            refine takeD (i := 6) (some 266) (v := ?_) rfl rfl (by kernel_rfl) (by kernel_rfl) (by kernel_rfl) (fun _ _ _ h => h) (by rfl) HS.out ?_ ?_
            rotate_left
            · intro wx hSx
              clear hSx
              go_simp
              try (with_reducible rfl)
            simp only [Act.put, List.setIfInBounds_toArray, List.set_cons_zero, List.set_cons_succ]
            refine takeD (i := 7) (some 267) (v := ?_) rfl rfl (by kernel_rfl) (by kernel_rfl) (by kernel_rfl) (fun _ _ _ h => h) (by rfl) HS.out ?_ ?_
            rotate_left
            · intro wx hSx
              clear hSx
              go_simp
              try (with_reducible rfl)
            simp only [Act.put, List.setIfInBounds_toArray, List.set_cons_zero, List.set_cons_succ]
            refine takeD (i := 8) (some 268) (v := ?_) rfl rfl (by kernel_rfl) (by kernel_rfl) (by kernel_rfl) (fun _ _ _ h => h) (by rfl) HS.out ?_ ?_
            rotate_left
            · intro wx hSx
              obtain ⟨u0c, u1c⟩ := (HAX.out _ (HB6.out.trans (hSx.mono HB6.out.size))).arr
              clear hSx
              go_simp
              try (with_reducible rfl)
            simp only [Act.put, List.setIfInBounds_toArray, List.set_cons_zero, List.set_cons_succ]
            refine wpAnyH_ready (rs := [9]) (by kernel_rfl) (by simp) ?_
            refine AllReadyH.cons rfl (fun K hK => ?_) AllReadyH.nil
            go_simp
            (with_reducible refine (allLineQ (HAX.out _ (HB6.out.trans (HS.out.mono HB6.out.size))) (show 1 < 2 by omega) false hl1).mono ?_)
            rintro e wq ⟨rfl, rfl⟩
            go_simp
            refine hK.out _ _ ?_ (fun hHeld => ?_)
            · exact HS.out
            clear hHeld hK K
            try simp only [Act.put, List.setIfInBounds_toArray, List.set_cons_zero, List.set_cons_succ]
            refine takeD (i := 10) (some 270) (v := ?_) rfl rfl (by kernel_rfl) (by kernel_rfl) (by kernel_rfl) (fun _ _ _ h => h) (by rfl) HS.out ?_ ?_
            rotate_left
            · intro wx hSx
              clear hSx
              go_simp
              try (with_reducible rfl)
            simp only [Act.put, List.setIfInBounds_toArray, List.set_cons_zero, List.set_cons_succ]
            refine takeD (i := 11) (some 271) (v := ?_) rfl rfl (by kernel_rfl) (by kernel_rfl) (by kernel_rfl) (fun _ _ _ h => h) (by rfl) HS.out ?_ ?_
            rotate_left
            · intro wx hSx
              clear hSx
              go_simp
              try (with_reducible rfl)
            simp only [Act.put, List.setIfInBounds_toArray, List.set_cons_zero, List.set_cons_succ]
            refine wpAnyH_done (by kernel_rfl) ?_ _
            have HF := Lib.hid (HAX.out x6 HB6.out)
            clear HAX HS
            go_wp2
            go_roundg gg
            case measure => omega
            case rel => exact ⟨j + 1, by omega, by go_num, t2, by rw [← idle_is mz cl0 t2 false false hl0 hl1]; exact HF.out⟩
        · as_aux_lemma =>
            clear hi0 hi1
            go_wp2_with fail
            refine wp_region_held_drew (S := fun wx => Below wc.heap.size wc wx) (by kernel_rfl) ((Below.refl _ _).drew) (fun hHeld0 => ?_)
            have HS := Lib.hid hHeld0
            clear hHeld0
            refine takeD (i := 0) (some 185) (v := ?_) rfl rfl (by kernel_rfl) (by kernel_rfl) (by kernel_rfl) (fun _ _ _ h => h) (by rfl) HS.out ?_ ?_
            rotate_left
            · intro wx hSx
              clear hSx
              go_simp
              try (with_reducible rfl)
            simp only [Act.put, List.setIfInBounds_toArray, List.set_cons_zero, List.set_cons_succ]
            refine takeD (i := 1) (some 186) (v := ?_) rfl rfl (by kernel_rfl) (by kernel_rfl) (by kernel_rfl) (fun _ _ _ h => h) (by rfl) HS.out ?_ ?_
            rotate_left
            · intro wx hSx
              clear hSx
              go_simp
              try (with_reducible rfl)
            simp only [Act.put, List.setIfInBounds_toArray, List.set_cons_zero, List.set_cons_succ]
            refine takeD (i := 4) (some 189) (v := ?_) rfl rfl (by kernel_rfl) (by kernel_rfl) (by kernel_rfl) (fun _ _ _ h => h) (by rfl) HS.out ?_ ?_
            rotate_left
            · intro wx hSx
              clear hSx
              go_simp
              try (with_reducible rfl)
            simp only [Act.put, List.setIfInBounds_toArray, List.set_cons_zero, List.set_cons_succ]
            refine takeD (i := 5) (some 190) (v := ?_) rfl rfl (by kernel_rfl) (by kernel_rfl) (by kernel_rfl) (fun _ _ _ h => h) (by rfl) HS.out ?_ ?_
            rotate_left
            · intro wx hSx
              clear hSx
              go_simp
              try (with_reducible rfl)
            simp only [Act.put, List.setIfInBounds_toArray, List.set_cons_zero, List.set_cons_succ]
            refine takeD (i := 6) (some 191) (v := ?_) rfl rfl (by kernel_rfl) (by kernel_rfl) (by kernel_rfl) (fun _ _ _ h => h) (by rfl) HS.out ?_ ?_
            rotate_left
            · intro wx hSx
              have uk := (HAX.out _ hSx).arrK hk
              clear hSx
              go_simp
              try (with_reducible rfl)
            simp only [Act.put, List.setIfInBounds_toArray, List.set_cons_zero, List.set_cons_succ]
            refine wpAnyH_ready (rs := [2]) (by kernel_rfl) (by simp) ?_
            refine AllReadyH.cons rfl (fun K hK => ?_) AllReadyH.nil
            go_simp
            (with_reducible refine (HOB.out _ HS.out).mono ?_)
            rintro e w5 ⟨a5, c5, rfl, hb5, hr5⟩
            have HB5 : Hid (Below wc.heap.size wc w5) := Lib.hid (HS.out.trans (hb5.mono HS.out.size))
            have HCV5 : Hid (∀ wx, Below w5.heap.size w5 wx → (convert 39 9 (.slice a5 xo.length c5)).run Tryd.prog wx = .ok (.string sO) wx) := Lib.hid fun wx hx => HSTR.out wx _ (hr5.below hx)
            clear hb5 hr5
            go_simp
            refine hK.out _ _ ?_ (fun hHeld => ?_)
            · exact HB5.out
            clear hHeld hK K
            try simp only [Act.put, List.setIfInBounds_toArray, List.set_cons_zero, List.set_cons_succ]
            replace HS := HB5
            refine wpAnyH_more (T := fun wx => Below w5.heap.size w5 wx) (fun wx hx => HB5.out.trans (hx.mono HB5.out.size)) _ _ _ _ ?_
            replace HS : Hid (Below w5.heap.size w5 w5) := Lib.hid (Below.refl _ _)
            refine takeD (i := 3) (some 188) (v := ?_) rfl rfl (by kernel_rfl) (by kernel_rfl) (by kernel_rfl) (fun _ _ _ h => h) (by rfl) HS.out ?_ ?_
            rotate_left
            · intro wx hSx
              have hcv := HCV5.out wx hSx
              clear hSx
              go_simp
              try (with_reducible rfl)
            simp only [Act.put, List.setIfInBounds_toArray, List.set_cons_zero, List.set_cons_succ]
            refine wpAnyH_ready (rs := [7]) (by kernel_rfl) (by simp) ?_
            refine AllReadyH.cons rfl (fun K hK => ?_) AllReadyH.nil
            go_simp
            (with_reducible refine (HOU.out _ (HB5.out.trans (HS.out.mono HB5.out.size))).mono ?_)
            rintro e w6 ⟨a6, c6, rfl, hb6, hr6, _⟩
            have HB56 : Hid (Below w5.heap.size w5 w6) := Lib.hid (HS.out.trans (hb6.mono HS.out.size))
            have HB6 : Hid (Below wc.heap.size wc w6) := Lib.hid (HB5.out.trans (HB56.out.mono HB5.out.size))
            have HCV6 : Hid (∀ wx, Below w6.heap.size w6 wx → (convert 39 9 (.slice a6 xo.length c6)).run Tryd.prog wx = .ok (.string sO) wx) := Lib.hid fun wx hx => HSTR.out wx _ (hr6.below hx)
            clear hb6 hr6
            go_simp
            refine hK.out _ _ ?_ (fun hHeld => ?_)
            · exact HB56.out
            clear hHeld hK K
            try simp only [Act.put, List.setIfInBounds_toArray, List.set_cons_zero, List.set_cons_succ]
            replace HS := HB56
            refine wpAnyH_more (T := fun wx => Below w6.heap.size w6 wx) (fun wx hx => HB56.out.trans (hx.mono HB56.out.size)) _ _ _ _ ?_
            replace HS : Hid (Below w6.heap.size w6 w6) := Lib.hid (Below.refl _ _)
            refine takeD (i := 8) (some 193) (v := ?_) rfl rfl (by kernel_rfl) (by kernel_rfl) (by kernel_rfl) (fun _ _ _ h => h) (by rfl) HS.out ?_ ?_
            rotate_left
            · intro wx hSx
              have hcv := HCV6.out wx hSx
              clear hSx
              go_simp
              try (with_reducible rfl)
            simp only [Act.put, List.setIfInBounds_toArray, List.set_cons_zero, List.set_cons_succ]
            refine takeD (i := 9) (some 194) (v := ?_) rfl rfl (by kernel_rfl) (by kernel_rfl) (by kernel_rfl) (fun _ _ _ h => h) (by rfl) HS.out ?_ ?_
            rotate_left
            · intro wx hSx
              clear hSx
              go_simp
              try (with_reducible rfl)
            simp only [Act.put, List.setIfInBounds_toArray, List.set_cons_zero, List.set_cons_succ]
            refine takeD (i := 10) (some 195) (v := ?_) rfl rfl (by kernel_rfl) (by kernel_rfl) (by kernel_rfl) (fun _ _ _ h => h) (by rfl) HS.out ?_ ?_
            rotate_left
            · intro wx hSx
              clear hSx
              go_simp
              try (with_reducible rfl)
            simp only [Act.put, List.setIfInBounds_toArray, List.set_cons_zero, List.set_cons_succ]
            refine takeD (i := 11) (some 196) (v := ?_) rfl rfl (by kernel_rfl) (by kernel_rfl) (by kernel_rfl) (fun _ _ _ h => h) (by rfl) HS.out ?_ ?_
            rotate_left
            · intro wx hSx
              clear hSx
              go_simp
              try (with_reducible rfl)
            simp only [Act.put, List.setIfInBounds_toArray, List.set_cons_zero, List.set_cons_succ]
            refine takeD (i := 12) (some 197) (v := ?_) rfl rfl (by kernel_rfl) (by kernel_rfl) (by kernel_rfl) (fun _ _ _ h => h) (by rfl) HS.out ?_ ?_
            rotate_left
            · intro wx hSx
              obtain ⟨u0c, u1c⟩ := (HAX.out _ (HB6.out.trans (hSx.mono HB6.out.size))).arr
              clear hSx
              go_simp
              try (with_reducible rfl)
            simp only [Act.put, List.setIfInBounds_toArray, List.set_cons_zero, List.set_cons_succ]
            refine wpAnyH_ready (rs := [13]) (by kernel_rfl) (by simp) ?_
            refine AllReadyH.cons rfl (fun K hK => ?_) AllReadyH.nil
            go_simp
            (with_reducible refine (allLineQ (HAX.out _ (HB6.out.trans (HS.out.mono HB6.out.size))) (show 0 < 2 by omega) false hl0).mono ?_)
            rintro e wq ⟨rfl, rfl⟩
            go_simp
            refine hK.out _ _ ?_ (fun hHeld => ?_)
            · exact HS.out
            clear hHeld hK K
            try simp only [Act.put, List.setIfInBounds_toArray, List.set_cons_zero, List.set_cons_succ]
            refine takeD (i := 14) (some 199) (v := ?_) rfl rfl (by kernel_rfl) (by kernel_rfl) (by kernel_rfl) (fun _ _ _ h => h) (by rfl) HS.out ?_ ?_
            rotate_left
            · intro wx hSx
              clear hSx
              go_simp
              try (with_reducible rfl)
            simp only [Act.put, List.setIfInBounds_toArray, List.set_cons_zero, List.set_cons_succ]
            refine takeD (i := 15) (some 200) (v := ?_) rfl rfl (by kernel_rfl) (by kernel_rfl) (by kernel_rfl) (fun _ _ _ h => h) (by rfl) HS.out ?_ ?_
            rotate_left
            · intro wx hSx
              clear hSx
              go_simp
              try (with_reducible rfl)
            simp only [Act.put, List.setIfInBounds_toArray, List.set_cons_zero, List.set_cons_succ]
            refine takeD (i := 16) (some 201) (v := ?_) rfl rfl (by kernel_rfl) (by kernel_rfl) (by kernel_rfl) (fun _ _ _ h => h) (by rfl) HS.out ?_ ?_
            rotate_left
            · intro wx hSx
              obtain ⟨u0c, u1c⟩ := (HAX.out _ (HB6.out.trans (hSx.mono HB6.out.size))).arr
              clear hSx
              go_simp
              try (with_reducible rfl)
            simp only [Act.put, List.setIfInBounds_toArray, List.set_cons_zero, List.set_cons_succ]
            refine wpAnyH_ready (rs := [17]) (by kernel_rfl) (by simp) ?_
            refine AllReadyH.cons rfl (fun K hK => ?_) AllReadyH.nil
            go_simp
            (with_reducible refine (allLineQ (HAX.out _ (HB6.out.trans (HS.out.mono HB6.out.size))) (show 1 < 2 by omega) false hl1).mono ?_)
            rintro e wq ⟨rfl, rfl⟩
            go_simp
            refine hK.out _ _ ?_ (fun hHeld => ?_)
            · exact HS.out
            clear hHeld hK K
            try simp only [Act.put, List.setIfInBounds_toArray, List.set_cons_zero, List.set_cons_succ]
            refine takeD (i := 18) (some 203) (v := ?_) rfl rfl (by kernel_rfl) (by kernel_rfl) (by kernel_rfl) (fun _ _ _ h => h) (by rfl) HS.out ?_ ?_
            rotate_left
            · intro wx hSx
              clear hSx
              go_simp
              try (with_reducible rfl)
            simp only [Act.put, List.setIfInBounds_toArray, List.set_cons_zero, List.set_cons_succ]
            refine takeD (i := 19) (some 204) (v := ?_) rfl rfl (by kernel_rfl) (by kernel_rfl) (by kernel_rfl) (fun _ _ _ h => h) (by rfl) HS.out ?_ ?_
            rotate_left
            · intro wx hSx
              clear hSx
              go_simp
              try (with_reducible rfl)
            simp only [Act.put, List.setIfInBounds_toArray, List.set_cons_zero, List.set_cons_succ]
            refine skipD (i := 20) (some 205) rfl rfl (by kernel_rfl) (by kernel_rfl) (by kernel_rfl) (fun _ _ _ h => h) (by rfl) HS.out ?_
            simp only [Act.put, List.setIfInBounds_toArray, List.set_cons_zero, List.set_cons_succ]
            refine skipD (i := 21) (some 206) rfl rfl (by kernel_rfl) (by kernel_rfl) (by kernel_rfl) (fun _ _ _ h => h) (by rfl) HS.out ?_
            simp only [Act.put, List.setIfInBounds_toArray, List.set_cons_zero, List.set_cons_succ]
            refine skipD (i := 22) (some 207) rfl rfl (by kernel_rfl) (by kernel_rfl) (by kernel_rfl) (fun _ _ _ h => h) (by rfl) HS.out ?_
            simp only [Act.put, List.setIfInBounds_toArray, List.set_cons_zero, List.set_cons_succ]
            refine skipD (i := 23) (some 208) rfl rfl (by kernel_rfl) (by kernel_rfl) (by kernel_rfl) (fun _ _ _ h => h) (by rfl) HS.out ?_
            simp only [Act.put, List.setIfInBounds_toArray, List.set_cons_zero, List.set_cons_succ]
            refine takeD (i := 24) (some 209) (v := ?_) rfl rfl (by kernel_rfl) (by kernel_rfl) (by kernel_rfl) (fun _ _ _ h => h) (by rfl) HS.out ?_ ?_
            rotate_left
            · intro wx hSx
              clear hSx
              go_simp
              try (with_reducible rfl)
            simp only [Act.put, List.setIfInBounds_toArray, List.set_cons_zero, List.set_cons_succ]
            refine takeD (i := 25) (some 210) (v := ?_) rfl rfl (by kernel_rfl) (by kernel_rfl) (by kernel_rfl) (fun _ _ _ h => h) (by rfl) HS.out ?_ ?_
            rotate_left
            · intro wx hSx
              clear hSx
              go_simp
              try (with_reducible rfl)
            simp only [Act.put, List.setIfInBounds_toArray, List.set_cons_zero, List.set_cons_succ]
            refine wpAnyH_done (by kernel_rfl) ?_ _
            have HR := Lib.hid (HAX.out w6 HB6.out)
            clear HOB HOU HAX HSTR HS
            obtain ⟨u0c, u1c⟩ := HR.out.arr
            go_wp2_with fail
            (with_reducible refine (allRead HR.out 203427844 4 (by unfold In64; omega) 10 true (dst mz cl0 t2 false false true false) (claim_10 mz cl0 t2 false false false)).mono ?_)
            rintro e x1 ⟨rfl, ha⟩
            have H1 := Lib.hid ha
            clear u0c u1c
            obtain ⟨u0c, u1c⟩ := ha.arr
            clear ha
            go_wp2_with fail
            (with_reducible refine (allRead H1.out 203427844 4 (by unfold In64; omega) 0 true (dst mz cl0 t2 false false true false) (claim_0 mz cl0 t2 true false)).mono ?_)
            rintro e x2 ⟨rfl, ha⟩
            have H2 := Lib.hid ha
            clear u0c u1c
            obtain ⟨u0c, u1c⟩ := ha.arr
            clear ha
            go_wp2_with fail
            (with_reducible refine (allLinesQ H2.out false rfl).mono ?_)
            rintro e x3 ⟨p0, p1, p2, p4, p5, rfl, hb⟩
            have H3 := Lib.hid (H2.out.later hb)
            clear u0c u1c
            obtain ⟨u0c, u1c⟩ := H3.out.arr
            have hfd := fun wx => field_seip p0 p1 p2 false p4 p5 wx
            clear hb
            go_wp2_with fail
            (with_reducible refine (allLineQ H3.out (show 0 < 2 by omega) false hl0).mono ?_)
            rintro e wq ⟨rfl, rfl⟩
            go_wp2_with fail
            (with_reducible refine (allLineQ H3.out (show 1 < 2 by omega) false hl1).mono ?_)
            rintro e wq ⟨rfl, rfl⟩
            clear hfd
            go_wp2_with fail
            (with_reducible refine (allWrite H3.out 203427844 4 10 (by unfold In64; omega) (by unfold In64; omega) true (dst mz cl0 t2 false false false false) (done_10q mz cl0 t2 false false false hl0)).mono ?_)
            rintro e x4 ⟨rfl, ha⟩
            have H4 := Lib.hid ha
            clear u0c u1c
            obtain ⟨u0c, u1c⟩ := ha.arr
            clear ha
            go_wp2_with fail
            (with_reducible refine (allWrite H4.out 203427844 4 0 (by unfold In64; omega) (by unfold In64; omega) true (dst mz cl0 t2 false false false false) (done_0 mz cl0 t2 false false false false)).mono ?_)
            rintro e x5 ⟨rfl, ha⟩
            have H5 := Lib.hid ha
            clear u0c u1c
            obtain ⟨u0c, u1c⟩ := ha.arr
            clear ha
            have HAX : Hid (∀ wx, Below x5.heap.size x5 wx → All w b g vp ul ub ua (dst mz cl0 t2 false false false false) t2 wx) := Lib.hid fun wx hx => H5.out.later hx
            clear u0c u1c
            go_wp2_with fail
            refine wp_region_held_drew (S := fun wx => Below x5.heap.size x5 wx) (by kernel_rfl) ((Below.refl _ _).drew) (fun hHeld0 => ?_)
            have HS := Lib.hid hHeld0
            clear hHeld0
            refine takeD (i := 0) (some 260) (v := ?_) rfl rfl (by kernel_rfl) (by kernel_rfl) (by kernel_rfl) (fun _ _ _ h => h) (by rfl) HS.out ?_ ?_
            rotate_left
            · intro wx hSx
              clear hSx
              go_simp
              try (with_reducible rfl)
            simp only [Act.put, List.setIfInBounds_toArray, List.set_cons_zero, List.set_cons_succ]
            refine takeD (i := 3) (some 263) (v := ?_) rfl rfl (by kernel_rfl) (by kernel_rfl) (by kernel_rfl) (fun _ _ _ h => h) (by rfl) HS.out ?_ ?_
            rotate_left
            · intro wx hSx
              clear hSx
              go_simp
              try (with_reducible rfl)
            simp only [Act.put, List.setIfInBounds_toArray, List.set_cons_zero, List.set_cons_succ]
            refine takeD (i := 4) (some 264) (v := ?_) rfl rfl (by kernel_rfl) (by kernel_rfl) (by kernel_rfl) (fun _ _ _ h => h) (by rfl) HS.out ?_ ?_
            rotate_left
            · intro wx hSx
              obtain ⟨u0c, u1c⟩ := (HAX.out _ hSx).arr
              clear hSx
              go_simp
              try (with_reducible rfl)
            simp only [Act.put, List.setIfInBounds_toArray, List.set_cons_zero, List.set_cons_succ]
            refine wpAnyH_ready (rs := [1]) (by kernel_rfl) (by simp) ?_
            refine AllReadyH.cons rfl (fun K hK => ?_) AllReadyH.nil
            go_simp
            (with_reducible refine (allLinesQ (HAX.out _ HS.out) false rfl).mono ?_)
            rintro e x6 ⟨p0, p1, p2, p4, p5, rfl, hb⟩
            have HB6 : Hid (Below x5.heap.size x5 x6) := Lib.hid (HS.out.trans (hb.mono HS.out.size))
            clear hb
            go_simp
            refine hK.out _ _ ?_ (fun hHeld => ?_)
            · exact HB6.out
            clear hHeld hK K
            try simp only [Act.put, List.setIfInBounds_toArray, List.set_cons_zero, List.set_cons_succ]
            replace HS := HB6
            refine wpAnyH_more (T := fun wx => Below x6.heap.size x6 wx) (fun wx hx => HB6.out.trans (hx.mono HB6.out.size)) _ _ _ _ ?_
            replace HS : Hid (Below x6.heap.size x6 x6) := Lib.hid (Below.refl _ _)
            refine takeD (i := 2) (some 262) (v := ?_) rfl rfl (by kernel_rfl) (by kernel_rfl) (by kernel_rfl) (fun _ _ _ h => h) (by rfl) HS.out ?_ ?_
            rotate_left
            · intro wx hSx
              have hfd := field_seip p0 p1 p2 false p4 p5 wx
              clear hSx
              go_simp
              try (with_reducible rfl)
            simp only [Act.put, List.setIfInBounds_toArray, List.set_cons_zero, List.set_cons_succ]
            refine wpAnyH_ready (rs := [5]) (by kernel_rfl) (by simp) ?_
            refine AllReadyH.cons rfl (fun K hK => ?_) AllReadyH.nil
            go_simp
            (with_reducible refine (allLineQ (HAX.out _ (HB6.out.trans (HS.out.mono HB6.out.size))) (show 0 < 2 by omega) false hl0).mono ?_)
            rintro e wq ⟨rfl, rfl⟩
            go_simp
            refine hK.out _ _ ?_ (fun hHeld => ?_)
            · exact HS.out
            clear hHeld hK K
            try simp only [Act.put, List.setIfInBounds_toArray, List.set_cons_zero, List.set_cons_succ]
            refine takeD (i := 6) (some 266) (v := ?_) rfl rfl (by kernel_rfl) (by kernel_rfl) (by kernel_rfl) (fun _ _ _ h => h) (by rfl) HS.out ?_ ?_
            rotate_left
            · intro wx hSx
              clear hSx
              go_simp
              try (with_reducible rfl)
            simp only [Act.put, List.setIfInBounds_toArray, List.set_cons_zero, List.set_cons_succ]
            refine takeD (i := 7) (some 267) (v := ?_) rfl rfl (by kernel_rfl) (by kernel_rfl) (by kernel_rfl) (fun _ _ _ h => h) (by rfl) HS.out ?_ ?_
            rotate_left
            · intro wx hSx
              clear hSx
              go_simp
              try (with_reducible rfl)
            simp only [Act.put, List.setIfInBounds_toArray, List.set_cons_zero, List.set_cons_succ]
            refine takeD (i := 8) (some 268) (v := ?_) rfl rfl (by kernel_rfl) (by kernel_rfl) (by kernel_rfl) (fun _ _ _ h => h) (by rfl) HS.out ?_ ?_
            rotate_left
            · intro wx hSx
              obtain ⟨u0c, u1c⟩ := (HAX.out _ (HB6.out.trans (hSx.mono HB6.out.size))).arr
              clear hSx
              go_simp
              try (with_reducible rfl)
            simp only [Act.put, List.setIfInBounds_toArray, List.set_cons_zero, List.set_cons_succ]
            refine wpAnyH_ready (rs := [9]) (by kernel_rfl) (by simp) ?_
            refine AllReadyH.cons rfl (fun K hK => ?_) AllReadyH.nil
            go_simp
            (with_reducible refine (allLineQ (HAX.out _ (HB6.out.trans (HS.out.mono HB6.out.size))) (show 1 < 2 by omega) false hl1).mono ?_)
            rintro e wq ⟨rfl, rfl⟩
            go_simp
            refine hK.out _ _ ?_ (fun hHeld => ?_)
            · exact HS.out
            clear hHeld hK K
            try simp only [Act.put, List.setIfInBounds_toArray, List.set_cons_zero, List.set_cons_succ]
            refine takeD (i := 10) (some 270) (v := ?_) rfl rfl (by kernel_rfl) (by kernel_rfl) (by kernel_rfl) (fun _ _ _ h => h) (by rfl) HS.out ?_ ?_
            rotate_left
            · intro wx hSx
              clear hSx
              go_simp
              try (with_reducible rfl)
            simp only [Act.put, List.setIfInBounds_toArray, List.set_cons_zero, List.set_cons_succ]
            refine takeD (i := 11) (some 271) (v := ?_) rfl rfl (by kernel_rfl) (by kernel_rfl) (by kernel_rfl) (fun _ _ _ h => h) (by rfl) HS.out ?_ ?_
            rotate_left
            · intro wx hSx
              clear hSx
              go_simp
              try (with_reducible rfl)
            simp only [Act.put, List.setIfInBounds_toArray, List.set_cons_zero, List.set_cons_succ]
            refine wpAnyH_done (by kernel_rfl) ?_ _
            have HF := Lib.hid (HAX.out x6 HB6.out)
            clear HAX HS
            go_wp2
            go_roundg gg
            case measure => omega
            case rel => exact ⟨j + 1, by omega, by go_num, t2, by rw [← idle_is mz cl0 t2 false false hl0 hl1]; exact HF.out⟩
        · as_aux_lemma =>
            clear hi0 hi1
            go_wp2_with fail
            refine wp_region_held_drew (S := fun wx => Below wc.heap.size wc wx) (by kernel_rfl) ((Below.refl _ _).drew) (fun hHeld0 => ?_)
            have HS := Lib.hid hHeld0
            clear hHeld0
            refine takeD (i := 0) (some 185) (v := ?_) rfl rfl (by kernel_rfl) (by kernel_rfl) (by kernel_rfl) (fun _ _ _ h => h) (by rfl) HS.out ?_ ?_
            rotate_left
            · intro wx hSx
              clear hSx
              go_simp
              try (with_reducible rfl)
            simp only [Act.put, List.setIfInBounds_toArray, List.set_cons_zero, List.set_cons_succ]
            refine takeD (i := 1) (some 186) (v := ?_) rfl rfl (by kernel_rfl) (by kernel_rfl) (by kernel_rfl) (fun _ _ _ h => h) (by rfl) HS.out ?_ ?_
            rotate_left
            · intro wx hSx
              clear hSx
              go_simp
              try (with_reducible rfl)
            simp only [Act.put, List.setIfInBounds_toArray, List.set_cons_zero, List.set_cons_succ]
            refine takeD (i := 4) (some 189) (v := ?_) rfl rfl (by kernel_rfl) (by kernel_rfl) (by kernel_rfl) (fun _ _ _ h => h) (by rfl) HS.out ?_ ?_
            rotate_left
            · intro wx hSx
              clear hSx
              go_simp
              try (with_reducible rfl)
            simp only [Act.put, List.setIfInBounds_toArray, List.set_cons_zero, List.set_cons_succ]
            refine takeD (i := 5) (some 190) (v := ?_) rfl rfl (by kernel_rfl) (by kernel_rfl) (by kernel_rfl) (fun _ _ _ h => h) (by rfl) HS.out ?_ ?_
            rotate_left
            · intro wx hSx
              clear hSx
              go_simp
              try (with_reducible rfl)
            simp only [Act.put, List.setIfInBounds_toArray, List.set_cons_zero, List.set_cons_succ]
            refine takeD (i := 6) (some 191) (v := ?_) rfl rfl (by kernel_rfl) (by kernel_rfl) (by kernel_rfl) (fun _ _ _ h => h) (by rfl) HS.out ?_ ?_
            rotate_left
            · intro wx hSx
              have uk := (HAX.out _ hSx).arrK hk
              clear hSx
              go_simp
              try (with_reducible rfl)
            simp only [Act.put, List.setIfInBounds_toArray, List.set_cons_zero, List.set_cons_succ]
            refine wpAnyH_ready (rs := [2]) (by kernel_rfl) (by simp) ?_
            refine AllReadyH.cons rfl (fun K hK => ?_) AllReadyH.nil
            go_simp
            (with_reducible refine (HOB.out _ HS.out).mono ?_)
            rintro e w5 ⟨a5, c5, rfl, hb5, hr5⟩
            have HB5 : Hid (Below wc.heap.size wc w5) := Lib.hid (HS.out.trans (hb5.mono HS.out.size))
            have HCV5 : Hid (∀ wx, Below w5.heap.size w5 wx → (convert 39 9 (.slice a5 xo.length c5)).run Tryd.prog wx = .ok (.string sO) wx) := Lib.hid fun wx hx => HSTR.out wx _ (hr5.below hx)
            clear hb5 hr5
            go_simp
            refine hK.out _ _ ?_ (fun hHeld => ?_)
            · exact HB5.out
            clear hHeld hK K
            try simp only [Act.put, List.setIfInBounds_toArray, List.set_cons_zero, List.set_cons_succ]
            replace HS := HB5
            refine wpAnyH_more (T := fun wx => Below w5.heap.size w5 wx) (fun wx hx => HB5.out.trans (hx.mono HB5.out.size)) _ _ _ _ ?_
            replace HS : Hid (Below w5.heap.size w5 w5) := Lib.hid (Below.refl _ _)
            refine takeD (i := 3) (some 188) (v := ?_) rfl rfl (by kernel_rfl) (by kernel_rfl) (by kernel_rfl) (fun _ _ _ h => h) (by rfl) HS.out ?_ ?_
            rotate_left
            · intro wx hSx
              have hcv := HCV5.out wx hSx
              clear hSx
              go_simp
              try (with_reducible rfl)
            simp only [Act.put, List.setIfInBounds_toArray, List.set_cons_zero, List.set_cons_succ]
            refine wpAnyH_ready (rs := [7]) (by kernel_rfl) (by simp) ?_
            refine AllReadyH.cons rfl (fun K hK => ?_) AllReadyH.nil
            go_simp
            (with_reducible refine (HOU.out _ (HB5.out.trans (HS.out.mono HB5.out.size))).mono ?_)
            rintro e w6 ⟨a6, c6, rfl, hb6, hr6, _⟩
            have HB56 : Hid (Below w5.heap.size w5 w6) := Lib.hid (HS.out.trans (hb6.mono HS.out.size))
            have HB6 : Hid (Below wc.heap.size wc w6) := Lib.hid (HB5.out.trans (HB56.out.mono HB5.out.size))
            have HCV6 : Hid (∀ wx, Below w6.heap.size w6 wx → (convert 39 9 (.slice a6 xo.length c6)).run Tryd.prog wx = .ok (.string sO) wx) := Lib.hid fun wx hx => HSTR.out wx _ (hr6.below hx)
            clear hb6 hr6
            go_simp
            refine hK.out _ _ ?_ (fun hHeld => ?_)
            · exact HB56.out
            clear hHeld hK K
            try simp only [Act.put, List.setIfInBounds_toArray, List.set_cons_zero, List.set_cons_succ]
            replace HS := HB56
            refine wpAnyH_more (T := fun wx => Below w6.heap.size w6 wx) (fun wx hx => HB56.out.trans (hx.mono HB56.out.size)) _ _ _ _ ?_
            replace HS : Hid (Below w6.heap.size w6 w6) := Lib.hid (Below.refl _ _)
            refine takeD (i := 8) (some 193) (v := ?_) rfl rfl (by kernel_rfl) (by kernel_rfl) (by kernel_rfl) (fun _ _ _ h => h) (by rfl) HS.out ?_ ?_
            rotate_left
            · intro wx hSx
              have hcv := HCV6.out wx hSx
              clear hSx
              go_simp
              try (with_reducible rfl)
            simp only [Act.put, List.setIfInBounds_toArray, List.set_cons_zero, List.set_cons_succ]
            refine takeD (i := 9) (some 194) (v := ?_) rfl rfl (by kernel_rfl) (by kernel_rfl) (by kernel_rfl) (fun _ _ _ h => h) (by rfl) HS.out ?_ ?_
            rotate_left
            · intro wx hSx
              clear hSx
              go_simp
              try (with_reducible rfl)
            simp only [Act.put, List.setIfInBounds_toArray, List.set_cons_zero, List.set_cons_succ]
            refine takeD (i := 10) (some 195) (v := ?_) rfl rfl (by kernel_rfl) (by kernel_rfl) (by kernel_rfl) (fun _ _ _ h => h) (by rfl) HS.out ?_ ?_
            rotate_left
            · intro wx hSx
              clear hSx
              go_simp
              try (with_reducible rfl)
            simp only [Act.put, List.setIfInBounds_toArray, List.set_cons_zero, List.set_cons_succ]
            refine takeD (i := 11) (some 196) (v := ?_) rfl rfl (by kernel_rfl) (by kernel_rfl) (by kernel_rfl) (fun _ _ _ h => h) (by rfl) HS.out ?_ ?_
            rotate_left
            · intro wx hSx
              clear hSx
              go_simp
              try (with_reducible rfl)
            simp only [Act.put, List.setIfInBounds_toArray, List.set_cons_zero, List.set_cons_succ]
            refine takeD (i := 12) (some 197) (v := ?_) rfl rfl (by kernel_rfl) (by kernel_rfl) (by kernel_rfl) (fun _ _ _ h => h) (by rfl) HS.out ?_ ?_
            rotate_left
            · intro wx hSx
              obtain ⟨u0c, u1c⟩ := (HAX.out _ (HB6.out.trans (hSx.mono HB6.out.size))).arr
              clear hSx
              go_simp
              try (with_reducible rfl)
            simp only [Act.put, List.setIfInBounds_toArray, List.set_cons_zero, List.set_cons_succ]
            refine wpAnyH_ready (rs := [13]) (by kernel_rfl) (by simp) ?_
            refine AllReadyH.cons rfl (fun K hK => ?_) AllReadyH.nil
            go_simp
            (with_reducible refine (allLineQ (HAX.out _ (HB6.out.trans (HS.out.mono HB6.out.size))) (show 0 < 2 by omega) false hl0).mono ?_)
            rintro e wq ⟨rfl, rfl⟩
            go_simp
            refine hK.out _ _ ?_ (fun hHeld => ?_)
            · exact HS.out
            clear hHeld hK K
            try simp only [Act.put, List.setIfInBounds_toArray, List.set_cons_zero, List.set_cons_succ]
            refine takeD (i := 14) (some 199) (v := ?_) rfl rfl (by kernel_rfl) (by kernel_rfl) (by kernel_rfl) (fun _ _ _ h => h) (by rfl) HS.out ?_ ?_
            rotate_left
            · intro wx hSx
              clear hSx
              go_simp
              try (with_reducible rfl)
            simp only [Act.put, List.setIfInBounds_toArray, List.set_cons_zero, List.set_cons_succ]
            refine takeD (i := 15) (some 200) (v := ?_) rfl rfl (by kernel_rfl) (by kernel_rfl) (by kernel_rfl) (fun _ _ _ h => h) (by rfl) HS.out ?_ ?_
            rotate_left
            · intro wx hSx
              clear hSx
              go_simp
              try (with_reducible rfl)
            simp only [Act.put, List.setIfInBounds_toArray, List.set_cons_zero, List.set_cons_succ]
            refine takeD (i := 16) (some 201) (v := ?_) rfl rfl (by kernel_rfl) (by kernel_rfl) (by kernel_rfl) (fun _ _ _ h => h) (by rfl) HS.out ?_ ?_
            rotate_left
            · intro wx hSx
              obtain ⟨u0c, u1c⟩ := (HAX.out _ (HB6.out.trans (hSx.mono HB6.out.size))).arr
              clear hSx
              go_simp
              try (with_reducible rfl)
            simp only [Act.put, List.setIfInBounds_toArray, List.set_cons_zero, List.set_cons_succ]
            refine wpAnyH_ready (rs := [17]) (by kernel_rfl) (by simp) ?_
            refine AllReadyH.cons rfl (fun K hK => ?_) AllReadyH.nil
            go_simp
            (with_reducible refine (allLineQ (HAX.out _ (HB6.out.trans (HS.out.mono HB6.out.size))) (show 1 < 2 by omega) false hl1).mono ?_)
            rintro e wq ⟨rfl, rfl⟩
            go_simp
            refine hK.out _ _ ?_ (fun hHeld => ?_)
            · exact HS.out
            clear hHeld hK K
            try simp only [Act.put, List.setIfInBounds_toArray, List.set_cons_zero, List.set_cons_succ]
            refine takeD (i := 18) (some 203) (v := ?_) rfl rfl (by kernel_rfl) (by kernel_rfl) (by kernel_rfl) (fun _ _ _ h => h) (by rfl) HS.out ?_ ?_
            rotate_left
            · intro wx hSx
              clear hSx
              go_simp
              try (with_reducible rfl)
            simp only [Act.put, List.setIfInBounds_toArray, List.set_cons_zero, List.set_cons_succ]
            refine takeD (i := 19) (some 204) (v := ?_) rfl rfl (by kernel_rfl) (by kernel_rfl) (by kernel_rfl) (fun _ _ _ h => h) (by rfl) HS.out ?_ ?_
            rotate_left
            · intro wx hSx
              clear hSx
              go_simp
              try (with_reducible rfl)
            simp only [Act.put, List.setIfInBounds_toArray, List.set_cons_zero, List.set_cons_succ]
            refine skipD (i := 20) (some 205) rfl rfl (by kernel_rfl) (by kernel_rfl) (by kernel_rfl) (fun _ _ _ h => h) (by rfl) HS.out ?_
            simp only [Act.put, List.setIfInBounds_toArray, List.set_cons_zero, List.set_cons_succ]
            refine skipD (i := 21) (some 206) rfl rfl (by kernel_rfl) (by kernel_rfl) (by kernel_rfl) (fun _ _ _ h => h) (by rfl) HS.out ?_
            simp only [Act.put, List.setIfInBounds_toArray, List.set_cons_zero, List.set_cons_succ]
            refine skipD (i := 22) (some 207) rfl rfl (by kernel_rfl) (by kernel_rfl) (by kernel_rfl) (fun _ _ _ h => h) (by rfl) HS.out ?_
            simp only [Act.put, List.setIfInBounds_toArray, List.set_cons_zero, List.set_cons_succ]
            refine skipD (i := 23) (some 208) rfl rfl (by kernel_rfl) (by kernel_rfl) (by kernel_rfl) (fun _ _ _ h => h) (by rfl) HS.out ?_
            simp only [Act.put, List.setIfInBounds_toArray, List.set_cons_zero, List.set_cons_succ]
            refine takeD (i := 24) (some 209) (v := ?_) rfl rfl (by kernel_rfl) (by kernel_rfl) (by kernel_rfl) (fun _ _ _ h => h) (by rfl) HS.out ?_ ?_
            rotate_left
            · intro wx hSx
              clear hSx
              go_simp
              try (with_reducible rfl)
            simp only [Act.put, List.setIfInBounds_toArray, List.set_cons_zero, List.set_cons_succ]
            refine takeD (i := 25) (some 210) (v := ?_) rfl rfl (by kernel_rfl) (by kernel_rfl) (by kernel_rfl) (fun _ _ _ h => h) (by rfl) HS.out ?_ ?_
            rotate_left
            · intro wx hSx
              clear hSx
              go_simp
              try (with_reducible rfl)
            simp only [Act.put, List.setIfInBounds_toArray, List.set_cons_zero, List.set_cons_succ]
            refine wpAnyH_done (by kernel_rfl) ?_ _
            have HR := Lib.hid (HAX.out w6 HB6.out)
            clear HOB HOU HAX HSTR HS
            obtain ⟨u0c, u1c⟩ := HR.out.arr
            go_wp2_with fail
            (with_reducible refine (allRead HR.out 203427844 4 (by unfold In64; omega) 10 true (dst mz cl0 t2 false true true false) (claim_10 mz cl0 t2 true false false)).mono ?_)
            rintro e x1 ⟨rfl, ha⟩
            have H1 := Lib.hid ha
            clear u0c u1c
            obtain ⟨u0c, u1c⟩ := ha.arr
            clear ha
            go_wp2_with fail
            (with_reducible refine (allRead H1.out 203427844 4 (by unfold In64; omega) 11 true (dst mz cl0 t2 false false true true) (claim_11 mz cl0 t2 true false)).mono ?_)
            rintro e x2 ⟨rfl, ha⟩
            have H2 := Lib.hid ha
            clear u0c u1c
            obtain ⟨u0c, u1c⟩ := ha.arr
            clear ha
            go_wp2_with fail
            (with_reducible refine (allLinesQ H2.out false rfl).mono ?_)
            rintro e x3 ⟨p0, p1, p2, p4, p5, rfl, hb⟩
            have H3 := Lib.hid (H2.out.later hb)
            clear u0c u1c
            obtain ⟨u0c, u1c⟩ := H3.out.arr
            have hfd := fun wx => field_seip p0 p1 p2 false p4 p5 wx
            clear hb
            go_wp2_with fail
            (with_reducible refine (allLineQ H3.out (show 0 < 2 by omega) false hl0).mono ?_)
            rintro e wq ⟨rfl, rfl⟩
            go_wp2_with fail
            (with_reducible refine (allLineQ H3.out (show 1 < 2 by omega) false hl1).mono ?_)
            rintro e wq ⟨rfl, rfl⟩
            clear hfd
            go_wp2_with fail
            (with_reducible refine (allWrite H3.out 203427844 4 10 (by unfold In64; omega) (by unfold In64; omega) true (dst mz cl0 t2 false false false true) (done_10q mz cl0 t2 false true false hl0)).mono ?_)
            rintro e x4 ⟨rfl, ha⟩
            have H4 := Lib.hid ha
            clear u0c u1c
            obtain ⟨u0c, u1c⟩ := ha.arr
            clear ha
            go_wp2_with fail
            (with_reducible refine (allWrite H4.out 203427844 4 11 (by unfold In64; omega) (by unfold In64; omega) true (dst mz cl0 t2 false false false false) (done_11q mz cl0 t2 false false false hl1)).mono ?_)
            rintro e x5 ⟨rfl, ha⟩
            have H5 := Lib.hid ha
            clear u0c u1c
            obtain ⟨u0c, u1c⟩ := ha.arr
            clear ha
            have HAX : Hid (∀ wx, Below x5.heap.size x5 wx → All w b g vp ul ub ua (dst mz cl0 t2 false false false false) t2 wx) := Lib.hid fun wx hx => H5.out.later hx
            clear u0c u1c
            go_wp2_with fail
            refine wp_region_held_drew (S := fun wx => Below x5.heap.size x5 wx) (by kernel_rfl) ((Below.refl _ _).drew) (fun hHeld0 => ?_)
            have HS := Lib.hid hHeld0
            clear hHeld0
            refine takeD (i := 0) (some 260) (v := ?_) rfl rfl (by kernel_rfl) (by kernel_rfl) (by kernel_rfl) (fun _ _ _ h => h) (by rfl) HS.out ?_ ?_
            rotate_left
            · intro wx hSx
              clear hSx
              go_simp
              try (with_reducible rfl)
            simp only [Act.put, List.setIfInBounds_toArray, List.set_cons_zero, List.set_cons_succ]
            refine takeD (i := 3) (some 263) (v := ?_) rfl rfl (by kernel_rfl) (by kernel_rfl) (by kernel_rfl) (fun _ _ _ h => h) (by rfl) HS.out ?_ ?_
            rotate_left
            · intro wx hSx
              clear hSx
              go_simp
              try (with_reducible rfl)
            simp only [Act.put, List.setIfInBounds_toArray, List.set_cons_zero, List.set_cons_succ]
            refine takeD (i := 4) (some 264) (v := ?_) rfl rfl (by kernel_rfl) (by kernel_rfl) (by kernel_rfl) (fun _ _ _ h => h) (by rfl) HS.out ?_ ?_
            rotate_left
            · intro wx hSx
              obtain ⟨u0c, u1c⟩ := (HAX.out _ hSx).arr
              clear hSx
              go_simp
              try (with_reducible rfl)
            simp only [Act.put, List.setIfInBounds_toArray, List.set_cons_zero, List.set_cons_succ]
            refine wpAnyH_ready (rs := [1]) (by kernel_rfl) (by simp) ?_
            refine AllReadyH.cons rfl (fun K hK => ?_) AllReadyH.nil
            go_simp
            (with_reducible refine (allLinesQ (HAX.out _ HS.out) false rfl).mono ?_)
            rintro e x6 ⟨p0, p1, p2, p4, p5, rfl, hb⟩
            have HB6 : Hid (Below x5.heap.size x5 x6) := Lib.hid (HS.out.trans (hb.mono HS.out.size))
            clear hb
            go_simp
            refine hK.out _ _ ?_ (fun hHeld => ?_)
            · exact HB6.out
            clear hHeld hK K
            try simp only [Act.put, List.setIfInBounds_toArray, List.set_cons_zero, List.set_cons_succ]
            replace HS := HB6
            refine wpAnyH_more (T := fun wx => Below x6.heap.size x6 wx) (fun wx hx => HB6.out.trans (hx.mono HB6.out.size)) _ _ _ _ ?_
            replace HS : Hid (Below x6.heap.size x6 x6) := Lib.hid (Below.refl _ _)
            refine takeD (i := 2) (some 262) (v := ?_) rfl rfl (by kernel_rfl) (by kernel_rfl) (by kernel_rfl) (fun _ _ _ h => h) (by rfl) HS.out ?_ ?_
            rotate_left
            · intro wx hSx
              have hfd := field_seip p0 p1 p2 false p4 p5 wx
              clear hSx
              go_simp
              try (with_reducible rfl)
            simp only [Act.put, List.setIfInBounds_toArray, List.set_cons_zero, List.set_cons_succ]
            refine wpAnyH_ready (rs := [5]) (by kernel_rfl) (by simp) ?_
            refine AllReadyH.cons rfl (fun K hK => ?_) AllReadyH.nil
            go_simp
            (with_reducible refine (allLineQ (HAX.out _ (HB6.out.trans (HS.out.mono HB6.out.size))) (show 0 < 2 by omega) false hl0).mono ?_)
            rintro e wq ⟨rfl, rfl⟩
            go_simp
            refine hK.out _ _ ?_ (fun hHeld => ?_)
            · exact HS.out
            clear hHeld hK K
            try simp only [Act.put, List.setIfInBounds_toArray, List.set_cons_zero, List.set_cons_succ]
            refine takeD (i := 6) (some 266) (v := ?_) rfl rfl (by kernel_rfl) (by kernel_rfl) (by kernel_rfl) (fun _ _ _ h => h) (by rfl) HS.out ?_ ?_
            rotate_left
            · intro wx hSx
              clear hSx
              go_simp
              try (with_reducible rfl)
            simp only [Act.put, List.setIfInBounds_toArray, List.set_cons_zero, List.set_cons_succ]
            refine takeD (i := 7) (some 267) (v := ?_) rfl rfl (by kernel_rfl) (by kernel_rfl) (by kernel_rfl) (fun _ _ _ h => h) (by rfl) HS.out ?_ ?_
            rotate_left
            · intro wx hSx
              clear hSx
              go_simp
              try (with_reducible rfl)
            simp only [Act.put, List.setIfInBounds_toArray, List.set_cons_zero, List.set_cons_succ]
            refine takeD (i := 8) (some 268) (v := ?_) rfl rfl (by kernel_rfl) (by kernel_rfl) (by kernel_rfl) (fun _ _ _ h => h) (by rfl) HS.out ?_ ?_
            rotate_left
            · intro wx hSx
              obtain ⟨u0c, u1c⟩ := (HAX.out _ (HB6.out.trans (hSx.mono HB6.out.size))).arr
              clear hSx
              go_simp
              try (with_reducible rfl)
            simp only [Act.put, List.setIfInBounds_toArray, List.set_cons_zero, List.set_cons_succ]
            refine wpAnyH_ready (rs := [9]) (by kernel_rfl) (by simp) ?_
            refine AllReadyH.cons rfl (fun K hK => ?_) AllReadyH.nil
            go_simp
            (with_reducible refine (allLineQ (HAX.out _ (HB6.out.trans (HS.out.mono HB6.out.size))) (show 1 < 2 by omega) false hl1).mono ?_)
            rintro e wq ⟨rfl, rfl⟩
            go_simp
            refine hK.out _ _ ?_ (fun hHeld => ?_)
            · exact HS.out
            clear hHeld hK K
            try simp only [Act.put, List.setIfInBounds_toArray, List.set_cons_zero, List.set_cons_succ]
            refine takeD (i := 10) (some 270) (v := ?_) rfl rfl (by kernel_rfl) (by kernel_rfl) (by kernel_rfl) (fun _ _ _ h => h) (by rfl) HS.out ?_ ?_
            rotate_left
            · intro wx hSx
              clear hSx
              go_simp
              try (with_reducible rfl)
            simp only [Act.put, List.setIfInBounds_toArray, List.set_cons_zero, List.set_cons_succ]
            refine takeD (i := 11) (some 271) (v := ?_) rfl rfl (by kernel_rfl) (by kernel_rfl) (by kernel_rfl) (fun _ _ _ h => h) (by rfl) HS.out ?_ ?_
            rotate_left
            · intro wx hSx
              clear hSx
              go_simp
              try (with_reducible rfl)
            simp only [Act.put, List.setIfInBounds_toArray, List.set_cons_zero, List.set_cons_succ]
            refine wpAnyH_done (by kernel_rfl) ?_ _
            have HF := Lib.hid (HAX.out x6 HB6.out)
            clear HAX HS
            go_wp2
            go_roundg gg
            case measure => omega
            case rel => exact ⟨j + 1, by omega, by go_num, t2, by rw [← idle_is mz cl0 t2 false false hl0 hl1]; exact HF.out⟩
        · exact absurd (hi1 hl1) (by decide)
        · as_aux_lemma =>
            clear hi0 hi1
            go_wp2_with fail
            refine wp_region_held_drew (S := fun wx => Below wc.heap.size wc wx) (by kernel_rfl) ((Below.refl _ _).drew) (fun hHeld0 => ?_)
            have HS := Lib.hid hHeld0
            clear hHeld0
            refine takeD (i := 0) (some 185) (v := ?_) rfl rfl (by kernel_rfl) (by kernel_rfl) (by kernel_rfl) (fun _ _ _ h => h) (by rfl) HS.out ?_ ?_
            rotate_left
            · intro wx hSx
              clear hSx
              go_simp
              try (with_reducible rfl)
            simp only [Act.put, List.setIfInBounds_toArray, List.set_cons_zero, List.set_cons_succ]
            refine takeD (i := 1) (some 186) (v := ?_) rfl rfl (by kernel_rfl) (by kernel_rfl) (by kernel_rfl) (fun _ _ _ h => h) (by rfl) HS.out ?_ ?_
            rotate_left
            · intro wx hSx
              clear hSx
              go_simp
              try (with_reducible rfl)
            simp only [Act.put, List.setIfInBounds_toArray, List.set_cons_zero, List.set_cons_succ]
            refine takeD (i := 4) (some 189) (v := ?_) rfl rfl (by kernel_rfl) (by kernel_rfl) (by kernel_rfl) (fun _ _ _ h => h) (by rfl) HS.out ?_ ?_
            rotate_left
            · intro wx hSx
              clear hSx
              go_simp
              try (with_reducible rfl)
            simp only [Act.put, List.setIfInBounds_toArray, List.set_cons_zero, List.set_cons_succ]
            refine takeD (i := 5) (some 190) (v := ?_) rfl rfl (by kernel_rfl) (by kernel_rfl) (by kernel_rfl) (fun _ _ _ h => h) (by rfl) HS.out ?_ ?_
            rotate_left
            · intro wx hSx
              clear hSx
              go_simp
              try (with_reducible rfl)
            simp only [Act.put, List.setIfInBounds_toArray, List.set_cons_zero, List.set_cons_succ]
            refine takeD (i := 6) (some 191) (v := ?_) rfl rfl (by kernel_rfl) (by kernel_rfl) (by kernel_rfl) (fun _ _ _ h => h) (by rfl) HS.out ?_ ?_
            rotate_left
            · intro wx hSx
              have uk := (HAX.out _ hSx).arrK hk
              clear hSx
              go_simp
              try (with_reducible rfl)
            simp only [Act.put, List.setIfInBounds_toArray, List.set_cons_zero, List.set_cons_succ]
            refine wpAnyH_ready (rs := [2]) (by kernel_rfl) (by simp) ?_
            refine AllReadyH.cons rfl (fun K hK => ?_) AllReadyH.nil
            go_simp
            (with_reducible refine (HOB.out _ HS.out).mono ?_)
            rintro e w5 ⟨a5, c5, rfl, hb5, hr5⟩
            have HB5 : Hid (Below wc.heap.size wc w5) := Lib.hid (HS.out.trans (hb5.mono HS.out.size))
            have HCV5 : Hid (∀ wx, Below w5.heap.size w5 wx → (convert 39 9 (.slice a5 xo.length c5)).run Tryd.prog wx = .ok (.string sO) wx) := Lib.hid fun wx hx => HSTR.out wx _ (hr5.below hx)
            clear hb5 hr5
            go_simp
            refine hK.out _ _ ?_ (fun hHeld => ?_)
            · exact HB5.out
            clear hHeld hK K
            try simp only [Act.put, List.setIfInBounds_toArray, List.set_cons_zero, List.set_cons_succ]
            replace HS := HB5
            refine wpAnyH_more (T := fun wx => Below w5.heap.size w5 wx) (fun wx hx => HB5.out.trans (hx.mono HB5.out.size)) _ _ _ _ ?_
            replace HS : Hid (Below w5.heap.size w5 w5) := Lib.hid (Below.refl _ _)
            refine takeD (i := 3) (some 188) (v := ?_) rfl rfl (by kernel_rfl) (by kernel_rfl) (by kernel_rfl) (fun _ _ _ h => h) (by rfl) HS.out ?_ ?_
            rotate_left
            · intro wx hSx
              have hcv := HCV5.out wx hSx
              clear hSx
              go_simp
              try (with_reducible rfl)
            simp only [Act.put, List.setIfInBounds_toArray, List.set_cons_zero, List.set_cons_succ]
            refine wpAnyH_ready (rs := [7]) (by kernel_rfl) (by simp) ?_
            refine AllReadyH.cons rfl (fun K hK => ?_) AllReadyH.nil
            go_simp
            (with_reducible refine (HOU.out _ (HB5.out.trans (HS.out.mono HB5.out.size))).mono ?_)
            rintro e w6 ⟨a6, c6, rfl, hb6, hr6, _⟩
            have HB56 : Hid (Below w5.heap.size w5 w6) := Lib.hid (HS.out.trans (hb6.mono HS.out.size))
            have HB6 : Hid (Below wc.heap.size wc w6) := Lib.hid (HB5.out.trans (HB56.out.mono HB5.out.size))
            have HCV6 : Hid (∀ wx, Below w6.heap.size w6 wx → (convert 39 9 (.slice a6 xo.length c6)).run Tryd.prog wx = .ok (.string sO) wx) := Lib.hid fun wx hx => HSTR.out wx _ (hr6.below hx)
            clear hb6 hr6
            go_simp
            refine hK.out _ _ ?_ (fun hHeld => ?_)
            · exact HB56.out
            clear hHeld hK K
            try simp only [Act.put, List.setIfInBounds_toArray, List.set_cons_zero, List.set_cons_succ]
            replace HS := HB56
            refine wpAnyH_more (T := fun wx => Below w6.heap.size w6 wx) (fun wx hx => HB56.out.trans (hx.mono HB56.out.size)) _ _ _ _ ?_
            replace HS : Hid (Below w6.heap.size w6 w6) := Lib.hid (Below.refl _ _)
            refine takeD (i := 8) (some 193) (v := ?_) rfl rfl (by kernel_rfl) (by kernel_rfl) (by kernel_rfl) (fun _ _ _ h => h) (by rfl) HS.out ?_ ?_
            rotate_left
            · intro wx hSx
              have hcv := HCV6.out wx hSx
              clear hSx
              go_simp
              try (with_reducible rfl)
            simp only [Act.put, List.setIfInBounds_toArray, List.set_cons_zero, List.set_cons_succ]
            refine takeD (i := 9) (some 194) (v := ?_) rfl rfl (by kernel_rfl) (by kernel_rfl) (by kernel_rfl) (fun _ _ _ h => h) (by rfl) HS.out ?_ ?_
            rotate_left
            · intro wx hSx
              clear hSx
              go_simp
              try (with_reducible rfl)
            simp only [Act.put, List.setIfInBounds_toArray, List.set_cons_zero, List.set_cons_succ]
            refine takeD (i := 10) (some 195) (v := ?_) rfl rfl (by kernel_rfl) (by kernel_rfl) (by kernel_rfl) (fun _ _ _ h => h) (by rfl) HS.out ?_ ?_
            rotate_left
            · intro wx hSx
              clear hSx
              go_simp
              try (with_reducible rfl)
            simp only [Act.put, List.setIfInBounds_toArray, List.set_cons_zero, List.set_cons_succ]
            refine takeD (i := 11) (some 196) (v := ?_) rfl rfl (by kernel_rfl) (by kernel_rfl) (by kernel_rfl) (fun _ _ _ h => h) (by rfl) HS.out ?_ ?_
            rotate_left
            · intro wx hSx
              clear hSx
              go_simp
              try (with_reducible rfl)
            simp only [Act.put, List.setIfInBounds_toArray, List.set_cons_zero, List.set_cons_succ]
            refine takeD (i := 12) (some 197) (v := ?_) rfl rfl (by kernel_rfl) (by kernel_rfl) (by kernel_rfl) (fun _ _ _ h => h) (by rfl) HS.out ?_ ?_
            rotate_left
            · intro wx hSx
              obtain ⟨u0c, u1c⟩ := (HAX.out _ (HB6.out.trans (hSx.mono HB6.out.size))).arr
              clear hSx
              go_simp
              try (with_reducible rfl)
            simp only [Act.put, List.setIfInBounds_toArray, List.set_cons_zero, List.set_cons_succ]
            refine wpAnyH_ready (rs := [13]) (by kernel_rfl) (by simp) ?_
            refine AllReadyH.cons rfl (fun K hK => ?_) AllReadyH.nil
            go_simp
            (with_reducible refine (allLineQ (HAX.out _ (HB6.out.trans (HS.out.mono HB6.out.size))) (show 0 < 2 by omega) false hl0).mono ?_)
            rintro e wq ⟨rfl, rfl⟩
            go_simp
            refine hK.out _ _ ?_ (fun hHeld => ?_)
            · exact HS.out
            clear hHeld hK K
            try simp only [Act.put, List.setIfInBounds_toArray, List.set_cons_zero, List.set_cons_succ]
            refine takeD (i := 14) (some 199) (v := ?_) rfl rfl (by kernel_rfl) (by kernel_rfl) (by kernel_rfl) (fun _ _ _ h => h) (by rfl) HS.out ?_ ?_
            rotate_left
            · intro wx hSx
              clear hSx
              go_simp
              try (with_reducible rfl)
            simp only [Act.put, List.setIfInBounds_toArray, List.set_cons_zero, List.set_cons_succ]
            refine takeD (i := 15) (some 200) (v := ?_) rfl rfl (by kernel_rfl) (by kernel_rfl) (by kernel_rfl) (fun _ _ _ h => h) (by rfl) HS.out ?_ ?_
            rotate_left
            · intro wx hSx
              clear hSx
              go_simp
              try (with_reducible rfl)
            simp only [Act.put, List.setIfInBounds_toArray, List.set_cons_zero, List.set_cons_succ]
            refine takeD (i := 16) (some 201) (v := ?_) rfl rfl (by kernel_rfl) (by kernel_rfl) (by kernel_rfl) (fun _ _ _ h => h) (by rfl) HS.out ?_ ?_
            rotate_left
            · intro wx hSx
              obtain ⟨u0c, u1c⟩ := (HAX.out _ (HB6.out.trans (hSx.mono HB6.out.size))).arr
              clear hSx
              go_simp
              try (with_reducible rfl)
            simp only [Act.put, List.setIfInBounds_toArray, List.set_cons_zero, List.set_cons_succ]
            refine wpAnyH_ready (rs := [17]) (by kernel_rfl) (by simp) ?_
            refine AllReadyH.cons rfl (fun K hK => ?_) AllReadyH.nil
            go_simp
            (with_reducible refine (allLineQ (HAX.out _ (HB6.out.trans (HS.out.mono HB6.out.size))) (show 1 < 2 by omega) true hl1).mono ?_)
            rintro e wq ⟨rfl, rfl⟩
            go_simp
            refine hK.out _ _ ?_ (fun hHeld => ?_)
            · exact HS.out
            clear hHeld hK K
            try simp only [Act.put, List.setIfInBounds_toArray, List.set_cons_zero, List.set_cons_succ]
            refine takeD (i := 18) (some 203) (v := ?_) rfl rfl (by kernel_rfl) (by kernel_rfl) (by kernel_rfl) (fun _ _ _ h => h) (by rfl) HS.out ?_ ?_
            rotate_left
            · intro wx hSx
              clear hSx
              go_simp
              try (with_reducible rfl)
            simp only [Act.put, List.setIfInBounds_toArray, List.set_cons_zero, List.set_cons_succ]
            refine takeD (i := 19) (some 204) (v := ?_) rfl rfl (by kernel_rfl) (by kernel_rfl) (by kernel_rfl) (fun _ _ _ h => h) (by rfl) HS.out ?_ ?_
            rotate_left
            · intro wx hSx
              clear hSx
              go_simp
              try (with_reducible rfl)
            simp only [Act.put, List.setIfInBounds_toArray, List.set_cons_zero, List.set_cons_succ]
            refine takeD (i := 20) (some 205) (v := ?_) rfl rfl (by kernel_rfl) (by kernel_rfl) (by kernel_rfl) (fun _ _ _ h => h) (by rfl) HS.out ?_ ?_
            rotate_left
            · intro wx hSx
              clear hSx
              go_simp
              try (with_reducible rfl)
            simp only [Act.put, List.setIfInBounds_toArray, List.set_cons_zero, List.set_cons_succ]
            refine wpAnyH_ready (rs := [21]) (by kernel_rfl) (by simp) ?_
            refine AllReadyH.cons rfl (fun K hK => ?_) AllReadyH.nil
            go_simp
            (with_reducible refine (allLinesQ (HAX.out _ (HB6.out.trans (HS.out.mono HB6.out.size))) true rfl).mono ?_)
            rintro e w7 ⟨p0, p1, p2, p4, p5, rfl, hb7⟩
            have HB67 : Hid (Below w6.heap.size w6 w7) := Lib.hid (HS.out.trans (hb7.mono HS.out.size))
            have HB7 : Hid (Below wc.heap.size wc w7) := Lib.hid (HB6.out.trans (HB67.out.mono HB6.out.size))
            clear hb7
            go_simp
            refine hK.out _ _ ?_ (fun hHeld => ?_)
            · exact HB67.out
            clear hHeld hK K
            try simp only [Act.put, List.setIfInBounds_toArray, List.set_cons_zero, List.set_cons_succ]
            replace HS := HB67
            refine wpAnyH_more (T := fun wx => Below w7.heap.size w7 wx) (fun wx hx => HB67.out.trans (hx.mono HB67.out.size)) _ _ _ _ ?_
            replace HS : Hid (Below w7.heap.size w7 w7) := Lib.hid (Below.refl _ _)
            refine takeD (i := 22) (some 207) (v := ?_) rfl rfl (by kernel_rfl) (by kernel_rfl) (by kernel_rfl) (fun _ _ _ h => h) (by rfl) HS.out ?_ ?_
            rotate_left
            · intro wx hSx
              have hfd := field_seip p0 p1 p2 true p4 p5 wx
              clear hSx
              go_simp
              try (with_reducible rfl)
            simp only [Act.put, List.setIfInBounds_toArray, List.set_cons_zero, List.set_cons_succ]
            refine takeD (i := 23) (some 208) (v := ?_) rfl rfl (by kernel_rfl) (by kernel_rfl) (by kernel_rfl) (fun _ _ _ h => h) (by rfl) HS.out ?_ ?_
            rotate_left
            · intro wx hSx
              clear hSx
              go_simp
              try (with_reducible rfl)
            simp only [Act.put, List.setIfInBounds_toArray, List.set_cons_zero, List.set_cons_succ]
            refine takeD (i := 24) (some 209) (v := ?_) rfl rfl (by kernel_rfl) (by kernel_rfl) (by kernel_rfl) (fun _ _ _ h => h) (by rfl) HS.out ?_ ?_
            rotate_left
            · intro wx hSx
              clear hSx
              go_simp
              try (with_reducible rfl)
            simp only [Act.put, List.setIfInBounds_toArray, List.set_cons_zero, List.set_cons_succ]
            refine takeD (i := 25) (some 210) (v := ?_) rfl rfl (by kernel_rfl) (by kernel_rfl) (by kernel_rfl) (fun _ _ _ h => h) (by rfl) HS.out ?_ ?_
            rotate_left
            · intro wx hSx
              clear hSx
              go_simp
              try (with_reducible rfl)
            simp only [Act.put, List.setIfInBounds_toArray, List.set_cons_zero, List.set_cons_succ]
            refine wpAnyH_done (by kernel_rfl) ?_ _
            have HR := Lib.hid (HAX.out w7 HB7.out)
            clear HOB HOU HAX HSTR HS
            obtain ⟨u0c, u1c⟩ := HR.out.arr
            go_wp2_with fail
            (with_reducible refine (allRead HR.out 203427844 4 (by unfold In64; omega) 11 true (dst mz cl0 t2 false false false true) (claim_11 mz cl0 t2 false false)).mono ?_)
            rintro e x1 ⟨rfl, ha⟩
            have H1 := Lib.hid ha
            clear u0c u1c
            obtain ⟨u0c, u1c⟩ := ha.arr
            clear ha
            go_wp2_with fail
            (with_reducible refine (allRead H1.out 203427844 4 (by unfold In64; omega) 0 true (dst mz cl0 t2 false false false true) (claim_0 mz cl0 t2 false true)).mono ?_)
            rintro e x2 ⟨rfl, ha⟩
            have H2 := Lib.hid ha
            clear u0c u1c
            obtain ⟨u0c, u1c⟩ := ha.arr
            clear ha
            go_wp2_with fail
            (with_reducible refine (allLinesQ H2.out false rfl).mono ?_)
            rintro e x3 ⟨p0, p1, p2, p4, p5, rfl, hb⟩
            have H3 := Lib.hid (H2.out.later hb)
            clear u0c u1c
            obtain ⟨u0c, u1c⟩ := H3.out.arr
            have hfd := fun wx => field_seip p0 p1 p2 false p4 p5 wx
            clear hb
            go_wp2_with fail
            (with_reducible refine (allLineQ H3.out (show 0 < 2 by omega) false hl0).mono ?_)
            rintro e wq ⟨rfl, rfl⟩
            go_wp2_with fail
            (with_reducible refine (allLineQ H3.out (show 1 < 2 by omega) true hl1).mono ?_)
            rintro e wq ⟨rfl, rfl⟩
            clear hfd
            go_wp2_with fail
            (with_reducible refine (allWrite H3.out 203427844 4 11 (by unfold In64; omega) (by unfold In64; omega) true (dst mz cl0 t2 false true false false) (done_11q mz cl0 t2 false false true hl1)).mono ?_)
            rintro e x4 ⟨rfl, ha⟩
            have H4 := Lib.hid ha
            clear u0c u1c
            obtain ⟨u0c, u1c⟩ := ha.arr
            clear ha
            go_wp2_with fail
            (with_reducible refine (allWrite H4.out 203427844 4 0 (by unfold In64; omega) (by unfold In64; omega) true (dst mz cl0 t2 false true false false) (done_0 mz cl0 t2 false true false false)).mono ?_)
            rintro e x5 ⟨rfl, ha⟩
            have H5 := Lib.hid ha
            clear u0c u1c
            obtain ⟨u0c, u1c⟩ := ha.arr
            clear ha
            have HAX : Hid (∀ wx, Below x5.heap.size x5 wx → All w b g vp ul ub ua (dst mz cl0 t2 false true false false) t2 wx) := Lib.hid fun wx hx => H5.out.later hx
            clear u0c u1c
            go_wp2_with fail
            refine wp_region_held_drew (S := fun wx => Below x5.heap.size x5 wx) (by kernel_rfl) ((Below.refl _ _).drew) (fun hHeld0 => ?_)
            have HS := Lib.hid hHeld0
            clear hHeld0
            refine takeD (i := 0) (some 260) (v := ?_) rfl rfl (by kernel_rfl) (by kernel_rfl) (by kernel_rfl) (fun _ _ _ h => h) (by rfl) HS.out ?_ ?_
            rotate_left
            · intro wx hSx
              clear hSx
              go_simp
              try (with_reducible rfl)
            simp only [Act.put, List.setIfInBounds_toArray, List.set_cons_zero, List.set_cons_succ]
            refine takeD (i := 3) (some 263) (v := ?_) rfl rfl (by kernel_rfl) (by kernel_rfl) (by kernel_rfl) (fun _ _ _ h => h) (by rfl) HS.out ?_ ?_
            rotate_left
            · intro wx hSx
              clear hSx
              go_simp
              try (with_reducible rfl)
            simp only [Act.put, List.setIfInBounds_toArray, List.set_cons_zero, List.set_cons_succ]
            refine takeD (i := 4) (some 264) (v := ?_) rfl rfl (by kernel_rfl) (by kernel_rfl) (by kernel_rfl) (fun _ _ _ h => h) (by rfl) HS.out ?_ ?_
            rotate_left
            · intro wx hSx
              obtain ⟨u0c, u1c⟩ := (HAX.out _ hSx).arr
              clear hSx
              go_simp
              try (with_reducible rfl)
            simp only [Act.put, List.setIfInBounds_toArray, List.set_cons_zero, List.set_cons_succ]
            refine wpAnyH_ready (rs := [1]) (by kernel_rfl) (by simp) ?_
            refine AllReadyH.cons rfl (fun K hK => ?_) AllReadyH.nil
            go_simp
            (with_reducible refine (allLinesQ (HAX.out _ HS.out) true rfl).mono ?_)
            rintro e x6 ⟨p0, p1, p2, p4, p5, rfl, hb⟩
            have HB6 : Hid (Below x5.heap.size x5 x6) := Lib.hid (HS.out.trans (hb.mono HS.out.size))
            clear hb
            go_simp
            refine hK.out _ _ ?_ (fun hHeld => ?_)
            · exact HB6.out
            clear hHeld hK K
            try simp only [Act.put, List.setIfInBounds_toArray, List.set_cons_zero, List.set_cons_succ]
            replace HS := HB6
            refine wpAnyH_more (T := fun wx => Below x6.heap.size x6 wx) (fun wx hx => HB6.out.trans (hx.mono HB6.out.size)) _ _ _ _ ?_
            replace HS : Hid (Below x6.heap.size x6 x6) := Lib.hid (Below.refl _ _)
            refine takeD (i := 2) (some 262) (v := ?_) rfl rfl (by kernel_rfl) (by kernel_rfl) (by kernel_rfl) (fun _ _ _ h => h) (by rfl) HS.out ?_ ?_
            rotate_left
            · intro wx hSx
              have hfd := field_seip p0 p1 p2 true p4 p5 wx
              clear hSx
              go_simp
              try (with_reducible rfl)
            simp only [Act.put, List.setIfInBounds_toArray, List.set_cons_zero, List.set_cons_succ]
            refine wpAnyH_ready (rs := [5]) (by kernel_rfl) (by simp) ?_
            refine AllReadyH.cons rfl (fun K hK => ?_) AllReadyH.nil
            go_simp
            (with_reducible refine (allLineQ (HAX.out _ (HB6.out.trans (HS.out.mono HB6.out.size))) (show 0 < 2 by omega) false hl0).mono ?_)
            rintro e wq ⟨rfl, rfl⟩
            go_simp
            refine hK.out _ _ ?_ (fun hHeld => ?_)
            · exact HS.out
            clear hHeld hK K
            try simp only [Act.put, List.setIfInBounds_toArray, List.set_cons_zero, List.set_cons_succ]
            refine takeD (i := 6) (some 266) (v := ?_) rfl rfl (by kernel_rfl) (by kernel_rfl) (by kernel_rfl) (fun _ _ _ h => h) (by rfl) HS.out ?_ ?_
            rotate_left
            · intro wx hSx
              clear hSx
              go_simp
              try (with_reducible rfl)
            simp only [Act.put, List.setIfInBounds_toArray, List.set_cons_zero, List.set_cons_succ]
            refine takeD (i := 7) (some 267) (v := ?_) rfl rfl (by kernel_rfl) (by kernel_rfl) (by kernel_rfl) (fun _ _ _ h => h) (by rfl) HS.out ?_ ?_
            rotate_left
            · intro wx hSx
              clear hSx
              go_simp
              try (with_reducible rfl)
            simp only [Act.put, List.setIfInBounds_toArray, List.set_cons_zero, List.set_cons_succ]
            refine takeD (i := 8) (some 268) (v := ?_) rfl rfl (by kernel_rfl) (by kernel_rfl) (by kernel_rfl) (fun _ _ _ h => h) (by rfl) HS.out ?_ ?_
            rotate_left
            · intro wx hSx
              obtain ⟨u0c, u1c⟩ := (HAX.out _ (HB6.out.trans (hSx.mono HB6.out.size))).arr
              clear hSx
              go_simp
              try (with_reducible rfl)
            simp only [Act.put, List.setIfInBounds_toArray, List.set_cons_zero, List.set_cons_succ]
            refine wpAnyH_ready (rs := [9]) (by kernel_rfl) (by simp) ?_
            refine AllReadyH.cons rfl (fun K hK => ?_) AllReadyH.nil
            go_simp
            (with_reducible refine (allLineQ (HAX.out _ (HB6.out.trans (HS.out.mono HB6.out.size))) (show 1 < 2 by omega) true hl1).mono ?_)
            rintro e wq ⟨rfl, rfl⟩
            go_simp
            refine hK.out _ _ ?_ (fun hHeld => ?_)
            · exact HS.out
            clear hHeld hK K
            try simp only [Act.put, List.setIfInBounds_toArray, List.set_cons_zero, List.set_cons_succ]
            refine takeD (i := 10) (some 270) (v := ?_) rfl rfl (by kernel_rfl) (by kernel_rfl) (by kernel_rfl) (fun _ _ _ h => h) (by rfl) HS.out ?_ ?_
            rotate_left
            · intro wx hSx
              clear hSx
              go_simp
              try (with_reducible rfl)
            simp only [Act.put, List.setIfInBounds_toArray, List.set_cons_zero, List.set_cons_succ]
            refine takeD (i := 11) (some 271) (v := ?_) rfl rfl (by kernel_rfl) (by kernel_rfl) (by kernel_rfl) (fun _ _ _ h => h) (by rfl) HS.out ?_ ?_
            rotate_left
            · intro wx hSx
              clear hSx
              go_simp
              try (with_reducible rfl)
            simp only [Act.put, List.setIfInBounds_toArray, List.set_cons_zero, List.set_cons_succ]
            refine wpAnyH_done (by kernel_rfl) ?_ _
            have HF := Lib.hid (HAX.out x6 HB6.out)
            clear HAX HS
            go_wp2
            go_roundg gg
            case measure => omega
            case rel => exact ⟨j + 1, by omega, by go_num, t2, by rw [← idle_is mz cl0 t2 false true hl0 hl1]; exact HF.out⟩
        · exact absurd (hi1 hl1) (by decide)
        · as_aux_lemma =>
            clear hi0 hi1
            go_wp2_with fail
            refine wp_region_held_drew (S := fun wx => Below wc.heap.size wc wx) (by kernel_rfl) ((Below.refl _ _).drew) (fun hHeld0 => ?_)
            have HS := Lib.hid hHeld0
            clear hHeld0
            refine takeD (i := 0) (some 185) (v := ?_) rfl rfl (by kernel_rfl) (by kernel_rfl) (by kernel_rfl) (fun _ _ _ h => h) (by rfl) HS.out ?_ ?_
            rotate_left
            · intro wx hSx
              clear hSx
              go_simp
              try (with_reducible rfl)
            simp only [Act.put, List.setIfInBounds_toArray, List.set_cons_zero, List.set_cons_succ]
            refine takeD (i := 1) (some 186) (v := ?_) rfl rfl (by kernel_rfl) (by kernel_rfl) (by kernel_rfl) (fun _ _ _ h => h) (by rfl) HS.out ?_ ?_
            rotate_left
            · intro wx hSx
              clear hSx
              go_simp
              try (with_reducible rfl)
            simp only [Act.put, List.setIfInBounds_toArray, List.set_cons_zero, List.set_cons_succ]
            refine takeD (i := 4) (some 189) (v := ?_) rfl rfl (by kernel_rfl) (by kernel_rfl) (by kernel_rfl) (fun _ _ _ h => h) (by rfl) HS.out ?_ ?_
            rotate_left
            · intro wx hSx
              clear hSx
              go_simp
              try (with_reducible rfl)
            simp only [Act.put, List.setIfInBounds_toArray, List.set_cons_zero, List.set_cons_succ]
            refine takeD (i := 5) (some 190) (v := ?_) rfl rfl (by kernel_rfl) (by kernel_rfl) (by kernel_rfl) (fun _ _ _ h => h) (by rfl) HS.out ?_ ?_
            rotate_left
            · intro wx hSx
              clear hSx
              go_simp
              try (with_reducible rfl)
            simp only [Act.put, List.setIfInBounds_toArray, List.set_cons_zero, List.set_cons_succ]
            refine takeD (i := 6) (some 191) (v := ?_) rfl rfl (by kernel_rfl) (by kernel_rfl) (by kernel_rfl) (fun _ _ _ h => h) (by rfl) HS.out ?_ ?_
            rotate_left
            · intro wx hSx
              have uk := (HAX.out _ hSx).arrK hk
              clear hSx
              go_simp
              try (with_reducible rfl)
            simp only [Act.put, List.setIfInBounds_toArray, List.set_cons_zero, List.set_cons_succ]
            refine wpAnyH_ready (rs := [2]) (by kernel_rfl) (by simp) ?_
            refine AllReadyH.cons rfl (fun K hK => ?_) AllReadyH.nil
            go_simp
            (with_reducible refine (HOB.out _ HS.out).mono ?_)
            rintro e w5 ⟨a5, c5, rfl, hb5, hr5⟩
            have HB5 : Hid (Below wc.heap.size wc w5) := Lib.hid (HS.out.trans (hb5.mono HS.out.size))
            have HCV5 : Hid (∀ wx, Below w5.heap.size w5 wx → (convert 39 9 (.slice a5 xo.length c5)).run Tryd.prog wx = .ok (.string sO) wx) := Lib.hid fun wx hx => HSTR.out wx _ (hr5.below hx)
            clear hb5 hr5
            go_simp
            refine hK.out _ _ ?_ (fun hHeld => ?_)
            · exact HB5.out
            clear hHeld hK K
            try simp only [Act.put, List.setIfInBounds_toArray, List.set_cons_zero, List.set_cons_succ]
            replace HS := HB5
            refine wpAnyH_more (T := fun wx => Below w5.heap.size w5 wx) (fun wx hx => HB5.out.trans (hx.mono HB5.out.size)) _ _ _ _ ?_
            replace HS : Hid (Below w5.heap.size w5 w5) := Lib.hid (Below.refl _ _)
            refine takeD (i := 3) (some 188) (v := ?_) rfl rfl (by kernel_rfl) (by kernel_rfl) (by kernel_rfl) (fun _ _ _ h => h) (by rfl) HS.out ?_ ?_
            rotate_left
            · intro wx hSx
              have hcv := HCV5.out wx hSx
              clear hSx
              go_simp
              try (with_reducible rfl)
            simp only [Act.put, List.setIfInBounds_toArray, List.set_cons_zero, List.set_cons_succ]
            refine wpAnyH_ready (rs := [7]) (by kernel_rfl) (by simp) ?_
            refine AllReadyH.cons rfl (fun K hK => ?_) AllReadyH.nil
            go_simp
            (with_reducible refine (HOU.out _ (HB5.out.trans (HS.out.mono HB5.out.size))).mono ?_)
            rintro e w6 ⟨a6, c6, rfl, hb6, hr6, _⟩
            have HB56 : Hid (Below w5.heap.size w5 w6) := Lib.hid (HS.out.trans (hb6.mono HS.out.size))
            have HB6 : Hid (Below wc.heap.size wc w6) := Lib.hid (HB5.out.trans (HB56.out.mono HB5.out.size))
            have HCV6 : Hid (∀ wx, Below w6.heap.size w6 wx → (convert 39 9 (.slice a6 xo.length c6)).run Tryd.prog wx = .ok (.string sO) wx) := Lib.hid fun wx hx => HSTR.out wx _ (hr6.below hx)
            clear hb6 hr6
            go_simp
            refine hK.out _ _ ?_ (fun hHeld => ?_)
            · exact HB56.out
            clear hHeld hK K
            try simp only [Act.put, List.setIfInBounds_toArray, List.set_cons_zero, List.set_cons_succ]
            replace HS := HB56
            refine wpAnyH_more (T := fun wx => Below w6.heap.size w6 wx) (fun wx hx => HB56.out.trans (hx.mono HB56.out.size)) _ _ _ _ ?_
            replace HS : Hid (Below w6.heap.size w6 w6) := Lib.hid (Below.refl _ _)
            refine takeD (i := 8) (some 193) (v := ?_) rfl rfl (by kernel_rfl) (by kernel_rfl) (by kernel_rfl) (fun _ _ _ h => h) (by rfl) HS.out ?_ ?_
            rotate_left
            · intro wx hSx
              have hcv := HCV6.out wx hSx
              clear hSx
              go_simp
              try (with_reducible rfl)
            simp only [Act.put, List.setIfInBounds_toArray, List.set_cons_zero, List.set_cons_succ]
            refine takeD (i := 9) (some 194) (v := ?_) rfl rfl (by kernel_rfl) (by kernel_rfl) (by kernel_rfl) (fun _ _ _ h => h) (by rfl) HS.out ?_ ?_
            rotate_left
            · intro wx hSx
              clear hSx
              go_simp
              try (with_reducible rfl)
            simp only [Act.put, List.setIfInBounds_toArray, List.set_cons_zero, List.set_cons_succ]
            refine takeD (i := 10) (some 195) (v := ?_) rfl rfl (by kernel_rfl) (by kernel_rfl) (by kernel_rfl) (fun _ _ _ h => h) (by rfl) HS.out ?_ ?_
            rotate_left
            · intro wx hSx
              clear hSx
              go_simp
              try (with_reducible rfl)
            simp only [Act.put, List.setIfInBounds_toArray, List.set_cons_zero, List.set_cons_succ]
            refine takeD (i := 11) (some 196) (v := ?_) rfl rfl (by kernel_rfl) (by kernel_rfl) (by kernel_rfl) (fun _ _ _ h => h) (by rfl) HS.out ?_ ?_
            rotate_left
            · intro wx hSx
              clear hSx
              go_simp
              try (with_reducible rfl)
            simp only [Act.put, List.setIfInBounds_toArray, List.set_cons_zero, List.set_cons_succ]
            refine takeD (i := 12) (some 197) (v := ?_) rfl rfl (by kernel_rfl) (by kernel_rfl) (by kernel_rfl) (fun _ _ _ h => h) (by rfl) HS.out ?_ ?_
            rotate_left
            · intro wx hSx
              obtain ⟨u0c, u1c⟩ := (HAX.out _ (HB6.out.trans (hSx.mono HB6.out.size))).arr
              clear hSx
              go_simp
              try (with_reducible rfl)
            simp only [Act.put, List.setIfInBounds_toArray, List.set_cons_zero, List.set_cons_succ]
            refine wpAnyH_ready (rs := [13]) (by kernel_rfl) (by simp) ?_
            refine AllReadyH.cons rfl (fun K hK => ?_) AllReadyH.nil
            go_simp
            (with_reducible refine (allLineQ (HAX.out _ (HB6.out.trans (HS.out.mono HB6.out.size))) (show 0 < 2 by omega) false hl0).mono ?_)
            rintro e wq ⟨rfl, rfl⟩
            go_simp
            refine hK.out _ _ ?_ (fun hHeld => ?_)
            · exact HS.out
            clear hHeld hK K
            try simp only [Act.put, List.setIfInBounds_toArray, List.set_cons_zero, List.set_cons_succ]
            refine takeD (i := 14) (some 199) (v := ?_) rfl rfl (by kernel_rfl) (by kernel_rfl) (by kernel_rfl) (fun _ _ _ h => h) (by rfl) HS.out ?_ ?_
            rotate_left
            · intro wx hSx
              clear hSx
              go_simp
              try (with_reducible rfl)
            simp only [Act.put, List.setIfInBounds_toArray, List.set_cons_zero, List.set_cons_succ]
            refine takeD (i := 15) (some 200) (v := ?_) rfl rfl (by kernel_rfl) (by kernel_rfl) (by kernel_rfl) (fun _ _ _ h => h) (by rfl) HS.out ?_ ?_
            rotate_left
            · intro wx hSx
              clear hSx
              go_simp
              try (with_reducible rfl)
            simp only [Act.put, List.setIfInBounds_toArray, List.set_cons_zero, List.set_cons_succ]
            refine takeD (i := 16) (some 201) (v := ?_) rfl rfl (by kernel_rfl) (by kernel_rfl) (by kernel_rfl) (fun _ _ _ h => h) (by rfl) HS.out ?_ ?_
            rotate_left
            · intro wx hSx
              obtain ⟨u0c, u1c⟩ := (HAX.out _ (HB6.out.trans (hSx.mono HB6.out.size))).arr
              clear hSx
              go_simp
              try (with_reducible rfl)
            simp only [Act.put, List.setIfInBounds_toArray, List.set_cons_zero, List.set_cons_succ]
            refine wpAnyH_ready (rs := [17]) (by kernel_rfl) (by simp) ?_
            refine AllReadyH.cons rfl (fun K hK => ?_) AllReadyH.nil
            go_simp
            (with_reducible refine (allLineQ (HAX.out _ (HB6.out.trans (HS.out.mono HB6.out.size))) (show 1 < 2 by omega) true hl1).mono ?_)
            rintro e wq ⟨rfl, rfl⟩
            go_simp
            refine hK.out _ _ ?_ (fun hHeld => ?_)
            · exact HS.out
            clear hHeld hK K
            try simp only [Act.put, List.setIfInBounds_toArray, List.set_cons_zero, List.set_cons_succ]
            refine takeD (i := 18) (some 203) (v := ?_) rfl rfl (by kernel_rfl) (by kernel_rfl) (by kernel_rfl) (fun _ _ _ h => h) (by rfl) HS.out ?_ ?_
            rotate_left
            · intro wx hSx
              clear hSx
              go_simp
              try (with_reducible rfl)
            simp only [Act.put, List.setIfInBounds_toArray, List.set_cons_zero, List.set_cons_succ]
            refine takeD (i := 19) (some 204) (v := ?_) rfl rfl (by kernel_rfl) (by kernel_rfl) (by kernel_rfl) (fun _ _ _ h => h) (by rfl) HS.out ?_ ?_
            rotate_left
            · intro wx hSx
              clear hSx
              go_simp
              try (with_reducible rfl)
            simp only [Act.put, List.setIfInBounds_toArray, List.set_cons_zero, List.set_cons_succ]
            refine takeD (i := 20) (some 205) (v := ?_) rfl rfl (by kernel_rfl) (by kernel_rfl) (by kernel_rfl) (fun _ _ _ h => h) (by rfl) HS.out ?_ ?_
            rotate_left
            · intro wx hSx
              clear hSx
              go_simp
              try (with_reducible rfl)
            simp only [Act.put, List.setIfInBounds_toArray, List.set_cons_zero, List.set_cons_succ]
            refine wpAnyH_ready (rs := [21]) (by kernel_rfl) (by simp) ?_
            refine AllReadyH.cons rfl (fun K hK => ?_) AllReadyH.nil
            go_simp
            (with_reducible refine (allLinesQ (HAX.out _ (HB6.out.trans (HS.out.mono HB6.out.size))) true rfl).mono ?_)
            rintro e w7 ⟨p0, p1, p2, p4, p5, rfl, hb7⟩
            have HB67 : Hid (Below w6.heap.size w6 w7) := Lib.hid (HS.out.trans (hb7.mono HS.out.size))
            have HB7 : Hid (Below wc.heap.size wc w7) := Lib.hid (HB6.out.trans (HB67.out.mono HB6.out.size))
            clear hb7
            go_simp
            refine hK.out _ _ ?_ (fun hHeld => ?_)
            · exact HB67.out
            clear hHeld hK K
            try simp only [Act.put, List.setIfInBounds_toArray, List.set_cons_zero, List.set_cons_succ]
            replace HS := HB67
            refine wpAnyH_more (T := fun wx => Below w7.heap.size w7 wx) (fun wx hx => HB67.out.trans (hx.mono HB67.out.size)) _ _ _ _ ?_
            replace HS : Hid (Below w7.heap.size w7 w7) := Lib.hid (Below.refl _ _)
            refine takeD (i := 22) (some 207) (v := ?_) rfl rfl (by kernel_rfl) (by kernel_rfl) (by kernel_rfl) (fun _ _ _ h => h) (by rfl) HS.out ?_ ?_
            rotate_left
            · intro wx hSx
              have hfd := field_seip p0 p1 p2 true p4 p5 wx
              clear hSx
              go_simp
              try (with_reducible rfl)
            simp only [Act.put, List.setIfInBounds_toArray, List.set_cons_zero, List.set_cons_succ]
            refine takeD (i := 23) (some 208) (v := ?_) rfl rfl (by kernel_rfl) (by kernel_rfl) (by kernel_rfl) (fun _ _ _ h => h) (by rfl) HS.out ?_ ?_
            rotate_left
            · intro wx hSx
              clear hSx
              go_simp
              try (with_reducible rfl)
            simp only [Act.put, List.setIfInBounds_toArray, List.set_cons_zero, List.set_cons_succ]
            refine takeD (i := 24) (some 209) (v := ?_) rfl rfl (by kernel_rfl) (by kernel_rfl) (by kernel_rfl) (fun _ _ _ h => h) (by rfl) HS.out ?_ ?_
            rotate_left
            · intro wx hSx
              clear hSx
              go_simp
              try (with_reducible rfl)
            simp only [Act.put, List.setIfInBounds_toArray, List.set_cons_zero, List.set_cons_succ]
            refine takeD (i := 25) (some 210) (v := ?_) rfl rfl (by kernel_rfl) (by kernel_rfl) (by kernel_rfl) (fun _ _ _ h => h) (by rfl) HS.out ?_ ?_
            rotate_left
            · intro wx hSx
              clear hSx
              go_simp
              try (with_reducible rfl)
            simp only [Act.put, List.setIfInBounds_toArray, List.set_cons_zero, List.set_cons_succ]
            refine wpAnyH_done (by kernel_rfl) ?_ _
            have HR := Lib.hid (HAX.out w7 HB7.out)
            clear HOB HOU HAX HSTR HS
            obtain ⟨u0c, u1c⟩ := HR.out.arr
            go_wp2_with fail
            (with_reducible refine (allRead HR.out 203427844 4 (by unfold In64; omega) 10 true (dst mz cl0 t2 false true true false) (claim_10 mz cl0 t2 true false false)).mono ?_)
            rintro e x1 ⟨rfl, ha⟩
            have H1 := Lib.hid ha
            clear u0c u1c
            obtain ⟨u0c, u1c⟩ := ha.arr
            clear ha
            go_wp2_with fail
            (with_reducible refine (allRead H1.out 203427844 4 (by unfold In64; omega) 11 true (dst mz cl0 t2 false false true true) (claim_11 mz cl0 t2 true false)).mono ?_)
            rintro e x2 ⟨rfl, ha⟩
            have H2 := Lib.hid ha
            clear u0c u1c
            obtain ⟨u0c, u1c⟩ := ha.arr
            clear ha
            go_wp2_with fail
            (with_reducible refine (allLinesQ H2.out false rfl).mono ?_)
            rintro e x3 ⟨p0, p1, p2, p4, p5, rfl, hb⟩
            have H3 := Lib.hid (H2.out.later hb)
            clear u0c u1c
            obtain ⟨u0c, u1c⟩ := H3.out.arr
            have hfd := fun wx => field_seip p0 p1 p2 false p4 p5 wx
            clear hb
            go_wp2_with fail
            (with_reducible refine (allLineQ H3.out (show 0 < 2 by omega) false hl0).mono ?_)
            rintro e wq ⟨rfl, rfl⟩
            go_wp2_with fail
            (with_reducible refine (allLineQ H3.out (show 1 < 2 by omega) true hl1).mono ?_)
            rintro e wq ⟨rfl, rfl⟩
            clear hfd
            go_wp2_with fail
            (with_reducible refine (allWrite H3.out 203427844 4 10 (by unfold In64; omega) (by unfold In64; omega) true (dst mz cl0 t2 false false false true) (done_10q mz cl0 t2 false true false hl0)).mono ?_)
            rintro e x4 ⟨rfl, ha⟩
            have H4 := Lib.hid ha
            clear u0c u1c
            obtain ⟨u0c, u1c⟩ := ha.arr
            clear ha
            go_wp2_with fail
            (with_reducible refine (allWrite H4.out 203427844 4 11 (by unfold In64; omega) (by unfold In64; omega) true (dst mz cl0 t2 false true false false) (done_11q mz cl0 t2 false false true hl1)).mono ?_)
            rintro e x5 ⟨rfl, ha⟩
            have H5 := Lib.hid ha
            clear u0c u1c
            obtain ⟨u0c, u1c⟩ := ha.arr
            clear ha
            have HAX : Hid (∀ wx, Below x5.heap.size x5 wx → All w b g vp ul ub ua (dst mz cl0 t2 false true false false) t2 wx) := Lib.hid fun wx hx => H5.out.later hx
            clear u0c u1c
            go_wp2_with fail
            refine wp_region_held_drew (S := fun wx => Below x5.heap.size x5 wx) (by kernel_rfl) ((Below.refl _ _).drew) (fun hHeld0 => ?_)
            have HS := Lib.hid hHeld0
            clear hHeld0
            refine takeD (i := 0) (some 260) (v := ?_) rfl rfl (by kernel_rfl) (by kernel_rfl) (by kernel_rfl) (fun _ _ _ h => h) (by rfl) HS.out ?_ ?_
            rotate_left
            · intro wx hSx
              clear hSx
              go_simp
              try (with_reducible rfl)
            simp only [Act.put, List.setIfInBounds_toArray, List.set_cons_zero, List.set_cons_succ]
            refine takeD (i := 3) (some 263) (v := ?_) rfl rfl (by kernel_rfl) (by kernel_rfl) (by kernel_rfl) (fun _ _ _ h => h) (by rfl) HS.out ?_ ?_
            rotate_left
            · intro wx hSx
              clear hSx
              go_simp
              try (with_reducible rfl)
            simp only [Act.put, List.setIfInBounds_toArray, List.set_cons_zero, List.set_cons_succ]
            refine takeD (i := 4) (some 264) (v := ?_) rfl rfl (by kernel_rfl) (by kernel_rfl) (by kernel_rfl) (fun _ _ _ h => h) (by rfl) HS.out ?_ ?_
            rotate_left
            · intro wx hSx
              obtain ⟨u0c, u1c⟩ := (HAX.out _ hSx).arr
              clear hSx
              go_simp
              try (with_reducible rfl)
            simp only [Act.put, List.setIfInBounds_toArray, List.set_cons_zero, List.set_cons_succ]
            refine wpAnyH_ready (rs := [1]) (by kernel_rfl) (by simp) ?_
            refine AllReadyH.cons rfl (fun K hK => ?_) AllReadyH.nil
            go_simp
            (with_reducible refine (allLinesQ (HAX.out _ HS.out) true rfl).mono ?_)
            rintro e x6 ⟨p0, p1, p2, p4, p5, rfl, hb⟩
            have HB6 : Hid (Below x5.heap.size x5 x6) := Lib.hid (HS.out.trans (hb.mono HS.out.size))
            clear hb
            go_simp
            refine hK.out _ _ ?_ (fun hHeld => ?_)
            · exact HB6.out
            clear hHeld hK K
            try simp only [Act.put, List.setIfInBounds_toArray, List.set_cons_zero, List.set_cons_succ]
            replace HS := HB6
            refine wpAnyH_more (T := fun wx => Below x6.heap.size x6 wx) (fun wx hx => HB6.out.trans (hx.mono HB6.out.size)) _ _ _ _ ?_
            replace HS : Hid (Below x6.heap.size x6 x6) := Lib.hid (Below.refl _ _)
            refine takeD (i := 2) (some 262) (v := ?_) rfl rfl (by kernel_rfl) (by kernel_rfl) (by kernel_rfl) (fun _ _ _ h => h) (by rfl) HS.out ?_ ?_
            rotate_left
            · intro wx hSx
              have hfd := field_seip p0 p1 p2 true p4 p5 wx
              clear hSx
              go_simp
              try (with_reducible rfl)
            simp only [Act.put, List.setIfInBounds_toArray, List.set_cons_zero, List.set_cons_succ]
            refine wpAnyH_ready (rs := [5]) (by kernel_rfl) (by simp) ?_
            refine AllReadyH.cons rfl (fun K hK => ?_) AllReadyH.nil
            go_simp
            (with_reducible refine (allLineQ (HAX.out _ (HB6.out.trans (HS.out.mono HB6.out.size))) (show 0 < 2 by omega) false hl0).mono ?_)
            rintro e wq ⟨rfl, rfl⟩
            go_simp
            refine hK.out _ _ ?_ (fun hHeld => ?_)
            · exact HS.out
            clear hHeld hK K
            try simp only [Act.put, List.setIfInBounds_toArray, List.set_cons_zero, List.set_cons_succ]
            refine takeD (i := 6) (some 266) (v := ?_) rfl rfl (by kernel_rfl) (by kernel_rfl) (by kernel_rfl) (fun _ _ _ h => h) (by rfl) HS.out ?_ ?_
            rotate_left
            · intro wx hSx
              clear hSx
              go_simp
              try (with_reducible rfl)
            simp only [Act.put, List.setIfInBounds_toArray, List.set_cons_zero, List.set_cons_succ]
            refine takeD (i := 7) (some 267) (v := ?_) rfl rfl (by kernel_rfl) (by kernel_rfl) (by kernel_rfl) (fun _ _ _ h => h) (by rfl) HS.out ?_ ?_
            rotate_left
            · intro wx hSx
              clear hSx
              go_simp
              try (with_reducible rfl)
            simp only [Act.put, List.setIfInBounds_toArray, List.set_cons_zero, List.set_cons_succ]
            refine takeD (i := 8) (some 268) (v := ?_) rfl rfl (by kernel_rfl) (by kernel_rfl) (by kernel_rfl) (fun _ _ _ h => h) (by rfl) HS.out ?_ ?_
            rotate_left
            · intro wx hSx
              obtain ⟨u0c, u1c⟩ := (HAX.out _ (HB6.out.trans (hSx.mono HB6.out.size))).arr
              clear hSx
              go_simp
              try (with_reducible rfl)
            simp only [Act.put, List.setIfInBounds_toArray, List.set_cons_zero, List.set_cons_succ]
            refine wpAnyH_ready (rs := [9]) (by kernel_rfl) (by simp) ?_
            refine AllReadyH.cons rfl (fun K hK => ?_) AllReadyH.nil
            go_simp
            (with_reducible refine (allLineQ (HAX.out _ (HB6.out.trans (HS.out.mono HB6.out.size))) (show 1 < 2 by omega) true hl1).mono ?_)
            rintro e wq ⟨rfl, rfl⟩
            go_simp
            refine hK.out _ _ ?_ (fun hHeld => ?_)
            · exact HS.out
            clear hHeld hK K
            try simp only [Act.put, List.setIfInBounds_toArray, List.set_cons_zero, List.set_cons_succ]
            refine takeD (i := 10) (some 270) (v := ?_) rfl rfl (by kernel_rfl) (by kernel_rfl) (by kernel_rfl) (fun _ _ _ h => h) (by rfl) HS.out ?_ ?_
            rotate_left
            · intro wx hSx
              clear hSx
              go_simp
              try (with_reducible rfl)
            simp only [Act.put, List.setIfInBounds_toArray, List.set_cons_zero, List.set_cons_succ]
            refine takeD (i := 11) (some 271) (v := ?_) rfl rfl (by kernel_rfl) (by kernel_rfl) (by kernel_rfl) (fun _ _ _ h => h) (by rfl) HS.out ?_ ?_
            rotate_left
            · intro wx hSx
              clear hSx
              go_simp
              try (with_reducible rfl)
            simp only [Act.put, List.setIfInBounds_toArray, List.set_cons_zero, List.set_cons_succ]
            refine wpAnyH_done (by kernel_rfl) ?_ _
            have HF := Lib.hid (HAX.out x6 HB6.out)
            clear HAX HS
            go_wp2
            go_roundg gg
            case measure => omega
            case rel => exact ⟨j + 1, by omega, by go_num, t2, by rw [← idle_is mz cl0 t2 false true hl0 hl1]; exact HF.out⟩
        · exact absurd (hi0 hl0) (by decide)
        · exact absurd (hi0 hl0) (by decide)
        · as_aux_lemma =>
            clear hi0 hi1
            go_wp2_with fail
            refine wp_region_held_drew (S := fun wx => Below wc.heap.size wc wx) (by kernel_rfl) ((Below.refl _ _).drew) (fun hHeld0 => ?_)
            have HS := Lib.hid hHeld0
            clear hHeld0
            refine takeD (i := 0) (some 185) (v := ?_) rfl rfl (by kernel_rfl) (by kernel_rfl) (by kernel_rfl) (fun _ _ _ h => h) (by rfl) HS.out ?_ ?_
            rotate_left
            · intro wx hSx
              clear hSx
              go_simp
              try (with_reducible rfl)
            simp only [Act.put, List.setIfInBounds_toArray, List.set_cons_zero, List.set_cons_succ]
            refine takeD (i := 1) (some 186) (v := ?_) rfl rfl (by kernel_rfl) (by kernel_rfl) (by kernel_rfl) (fun _ _ _ h => h) (by rfl) HS.out ?_ ?_
            rotate_left
            · intro wx hSx
              clear hSx
              go_simp
              try (with_reducible rfl)
            simp only [Act.put, List.setIfInBounds_toArray, List.set_cons_zero, List.set_cons_succ]
            refine takeD (i := 4) (some 189) (v := ?_) rfl rfl (by kernel_rfl) (by kernel_rfl) (by kernel_rfl) (fun _ _ _ h => h) (by rfl) HS.out ?_ ?_
            rotate_left
            · intro wx hSx
              clear hSx
              go_simp
              try (with_reducible rfl)
            simp only [Act.put, List.setIfInBounds_toArray, List.set_cons_zero, List.set_cons_succ]
            refine takeD (i := 5) (some 190) (v := ?_) rfl rfl (by kernel_rfl) (by kernel_rfl) (by kernel_rfl) (fun _ _ _ h => h) (by rfl) HS.out ?_ ?_
            rotate_left
            · intro wx hSx
              clear hSx
              go_simp
              try (with_reducible rfl)
            simp only [Act.put, List.setIfInBounds_toArray, List.set_cons_zero, List.set_cons_succ]
            refine takeD (i := 6) (some 191) (v := ?_) rfl rfl (by kernel_rfl) (by kernel_rfl) (by kernel_rfl) (fun _ _ _ h => h) (by rfl) HS.out ?_ ?_
            rotate_left
            · intro wx hSx
              have uk := (HAX.out _ hSx).arrK hk
              clear hSx
              go_simp
              try (with_reducible rfl)
            simp only [Act.put, List.setIfInBounds_toArray, List.set_cons_zero, List.set_cons_succ]
            refine wpAnyH_ready (rs := [2]) (by kernel_rfl) (by simp) ?_
            refine AllReadyH.cons rfl (fun K hK => ?_) AllReadyH.nil
            go_simp
            (with_reducible refine (HOB.out _ HS.out).mono ?_)
            rintro e w5 ⟨a5, c5, rfl, hb5, hr5⟩
            have HB5 : Hid (Below wc.heap.size wc w5) := Lib.hid (HS.out.trans (hb5.mono HS.out.size))
            have HCV5 : Hid (∀ wx, Below w5.heap.size w5 wx → (convert 39 9 (.slice a5 xo.length c5)).run Tryd.prog wx = .ok (.string sO) wx) := Lib.hid fun wx hx => HSTR.out wx _ (hr5.below hx)
            clear hb5 hr5
            go_simp
            refine hK.out _ _ ?_ (fun hHeld => ?_)
            · exact HB5.out
            clear hHeld hK K
            try simp only [Act.put, List.setIfInBounds_toArray, List.set_cons_zero, List.set_cons_succ]
            replace HS := HB5
            refine wpAnyH_more (T := fun wx => Below w5.heap.size w5 wx) (fun wx hx => HB5.out.trans (hx.mono HB5.out.size)) _ _ _ _ ?_
            replace HS : Hid (Below w5.heap.size w5 w5) := Lib.hid (Below.refl _ _)
            refine takeD (i := 3) (some 188) (v := ?_) rfl rfl (by kernel_rfl) (by kernel_rfl) (by kernel_rfl) (fun _ _ _ h => h) (by rfl) HS.out ?_ ?_
            rotate_left
            · intro wx hSx
              have hcv := HCV5.out wx hSx
              clear hSx
              go_simp
              try (with_reducible rfl)
            simp only [Act.put, List.setIfInBounds_toArray, List.set_cons_zero, List.set_cons_succ]
            refine wpAnyH_ready (rs := [7]) (by kernel_rfl) (by simp) ?_
            refine AllReadyH.cons rfl (fun K hK => ?_) AllReadyH.nil
            go_simp
            (with_reducible refine (HOU.out _ (HB5.out.trans (HS.out.mono HB5.out.size))).mono ?_)
            rintro e w6 ⟨a6, c6, rfl, hb6, hr6, _⟩
            have HB56 : Hid (Below w5.heap.size w5 w6) := Lib.hid (HS.out.trans (hb6.mono HS.out.size))
            have HB6 : Hid (Below wc.heap.size wc w6) := Lib.hid (HB5.out.trans (HB56.out.mono HB5.out.size))
            have HCV6 : Hid (∀ wx, Below w6.heap.size w6 wx → (convert 39 9 (.slice a6 xo.length c6)).run Tryd.prog wx = .ok (.string sO) wx) := Lib.hid fun wx hx => HSTR.out wx _ (hr6.below hx)
            clear hb6 hr6
            go_simp
            refine hK.out _ _ ?_ (fun hHeld => ?_)
            · exact HB56.out
            clear hHeld hK K
            try simp only [Act.put, List.setIfInBounds_toArray, List.set_cons_zero, List.set_cons_succ]
            replace HS := HB56
            refine wpAnyH_more (T := fun wx => Below w6.heap.size w6 wx) (fun wx hx => HB56.out.trans (hx.mono HB56.out.size)) _ _ _ _ ?_
            replace HS : Hid (Below w6.heap.size w6 w6) := Lib.hid (Below.refl _ _)
            refine takeD (i := 8) (some 193) (v := ?_) rfl rfl (by kernel_rfl) (by kernel_rfl) (by kernel_rfl) (fun _ _ _ h => h) (by rfl) HS.out ?_ ?_
            rotate_left
            · intro wx hSx
              have hcv := HCV6.out wx hSx
              clear hSx
              go_simp
              try (with_reducible rfl)
            simp only [Act.put, List.setIfInBounds_toArray, List.set_cons_zero, List.set_cons_succ]
            refine takeD (i := 9) (some 194) (v := ?_) rfl rfl (by kernel_rfl) (by kernel_rfl) (by kernel_rfl) (fun _ _ _ h => h) (by rfl) HS.out ?_ ?_
            rotate_left
            · intro wx hSx
              clear hSx
              go_simp
              try (with_reducible rfl)
            simp only [Act.put, List.setIfInBounds_toArray, List.set_cons_zero, List.set_cons_succ]
            refine takeD (i := 10) (some 195) (v := ?_) rfl rfl (by kernel_rfl) (by kernel_rfl) (by kernel_rfl) (fun _ _ _ h => h) (by rfl) HS.out ?_ ?_
            rotate_left
            · intro wx hSx
              clear hSx
              go_simp
              try (with_reducible rfl)
            simp only [Act.put, List.setIfInBounds_toArray, List.set_cons_zero, List.set_cons_succ]
            refine takeD (i := 11) (some 196) (v := ?_) rfl rfl (by kernel_rfl) (by kernel_rfl) (by kernel_rfl) (fun _ _ _ h => h) (by rfl) HS.out ?_ ?_
            rotate_left
            · intro wx hSx
              clear hSx
              go_simp
              try (with_reducible rfl)
            simp only [Act.put, List.setIfInBounds_toArray, List.set_cons_zero, List.set_cons_succ]
            refine takeD (i := 12) (some 197) (v := ?_) rfl rfl (by kernel_rfl) (by kernel_rfl) (by kernel_rfl) (fun _ _ _ h => h) (by rfl) HS.out ?_ ?_
            rotate_left
            · intro wx hSx
              obtain ⟨u0c, u1c⟩ := (HAX.out _ (HB6.out.trans (hSx.mono HB6.out.size))).arr
              clear hSx
              go_simp
              try (with_reducible rfl)
            simp only [Act.put, List.setIfInBounds_toArray, List.set_cons_zero, List.set_cons_succ]
            refine wpAnyH_ready (rs := [13]) (by kernel_rfl) (by simp) ?_
            refine AllReadyH.cons rfl (fun K hK => ?_) AllReadyH.nil
            go_simp
            (with_reducible refine (allLineQ (HAX.out _ (HB6.out.trans (HS.out.mono HB6.out.size))) (show 0 < 2 by omega) true hl0).mono ?_)
            rintro e wq ⟨rfl, rfl⟩
            go_simp
            refine hK.out _ _ ?_ (fun hHeld => ?_)
            · exact HS.out
            clear hHeld hK K
            try simp only [Act.put, List.setIfInBounds_toArray, List.set_cons_zero, List.set_cons_succ]
            refine takeD (i := 14) (some 199) (v := ?_) rfl rfl (by kernel_rfl) (by kernel_rfl) (by kernel_rfl) (fun _ _ _ h => h) (by rfl) HS.out ?_ ?_
            rotate_left
            · intro wx hSx
              clear hSx
              go_simp
              try (with_reducible rfl)
            simp only [Act.put, List.setIfInBounds_toArray, List.set_cons_zero, List.set_cons_succ]
            refine skipD (i := 15) (some 200) rfl rfl (by kernel_rfl) (by kernel_rfl) (by kernel_rfl) (fun _ _ _ h => h) (by rfl) HS.out ?_
            simp only [Act.put, List.setIfInBounds_toArray, List.set_cons_zero, List.set_cons_succ]
            refine skipD (i := 16) (some 201) rfl rfl (by kernel_rfl) (by kernel_rfl) (by kernel_rfl) (fun _ _ _ h => h) (by rfl) HS.out ?_
            simp only [Act.put, List.setIfInBounds_toArray, List.set_cons_zero, List.set_cons_succ]
            refine skipD (i := 17) (some 202) rfl rfl (by kernel_rfl) (by kernel_rfl) (by kernel_rfl) (fun _ _ _ h => h) (by rfl) HS.out ?_
            simp only [Act.put, List.setIfInBounds_toArray, List.set_cons_zero, List.set_cons_succ]
            refine takeD (i := 18) (some 203) (v := ?_) rfl rfl (by kernel_rfl) (by kernel_rfl) (by kernel_rfl) (fun _ _ _ h => h) (by rfl) HS.out ?_ ?_
            rotate_left
            · intro wx hSx
              clear hSx
              go_simp
              try (with_reducible rfl)
            simp only [Act.put, List.setIfInBounds_toArray, List.set_cons_zero, List.set_cons_succ]
            refine takeD (i := 19) (some 204) (v := ?_) rfl rfl (by kernel_rfl) (by kernel_rfl) (by kernel_rfl) (fun _ _ _ h => h) (by rfl) HS.out ?_ ?_
            rotate_left
            · intro wx hSx
              clear hSx
              go_simp
              try (with_reducible rfl)
            simp only [Act.put, List.setIfInBounds_toArray, List.set_cons_zero, List.set_cons_succ]
            refine takeD (i := 20) (some 205) (v := ?_) rfl rfl (by kernel_rfl) (by kernel_rfl) (by kernel_rfl) (fun _ _ _ h => h) (by rfl) HS.out ?_ ?_
            rotate_left
            · intro wx hSx
              clear hSx
              go_simp
              try (with_reducible rfl)
            simp only [Act.put, List.setIfInBounds_toArray, List.set_cons_zero, List.set_cons_succ]
            refine wpAnyH_ready (rs := [21]) (by kernel_rfl) (by simp) ?_
            refine AllReadyH.cons rfl (fun K hK => ?_) AllReadyH.nil
            go_simp
            (with_reducible refine (allLinesQ (HAX.out _ (HB6.out.trans (HS.out.mono HB6.out.size))) true rfl).mono ?_)
            rintro e w7 ⟨p0, p1, p2, p4, p5, rfl, hb7⟩
            have HB67 : Hid (Below w6.heap.size w6 w7) := Lib.hid (HS.out.trans (hb7.mono HS.out.size))
            have HB7 : Hid (Below wc.heap.size wc w7) := Lib.hid (HB6.out.trans (HB67.out.mono HB6.out.size))
            clear hb7
            go_simp
            refine hK.out _ _ ?_ (fun hHeld => ?_)
            · exact HB67.out
            clear hHeld hK K
            try simp only [Act.put, List.setIfInBounds_toArray, List.set_cons_zero, List.set_cons_succ]
            replace HS := HB67
            refine wpAnyH_more (T := fun wx => Below w7.heap.size w7 wx) (fun wx hx => HB67.out.trans (hx.mono HB67.out.size)) _ _ _ _ ?_
            replace HS : Hid (Below w7.heap.size w7 w7) := Lib.hid (Below.refl _ _)
            refine takeD (i := 22) (some 207) (v := ?_) rfl rfl (by kernel_rfl) (by kernel_rfl) (by kernel_rfl) (fun _ _ _ h => h) (by rfl) HS.out ?_ ?_
            rotate_left
            · intro wx hSx
              have hfd := field_seip p0 p1 p2 true p4 p5 wx
              clear hSx
              go_simp
              try (with_reducible rfl)
            simp only [Act.put, List.setIfInBounds_toArray, List.set_cons_zero, List.set_cons_succ]
            refine takeD (i := 23) (some 208) (v := ?_) rfl rfl (by kernel_rfl) (by kernel_rfl) (by kernel_rfl) (fun _ _ _ h => h) (by rfl) HS.out ?_ ?_
            rotate_left
            · intro wx hSx
              clear hSx
              go_simp
              try (with_reducible rfl)
            simp only [Act.put, List.setIfInBounds_toArray, List.set_cons_zero, List.set_cons_succ]
            refine takeD (i := 24) (some 209) (v := ?_) rfl rfl (by kernel_rfl) (by kernel_rfl) (by kernel_rfl) (fun _ _ _ h => h) (by rfl) HS.out ?_ ?_
            rotate_left
            · intro wx hSx
              clear hSx
              go_simp
              try (with_reducible rfl)
            simp only [Act.put, List.setIfInBounds_toArray, List.set_cons_zero, List.set_cons_succ]
            refine takeD (i := 25) (some 210) (v := ?_) rfl rfl (by kernel_rfl) (by kernel_rfl) (by kernel_rfl) (fun _ _ _ h => h) (by rfl) HS.out ?_ ?_
            rotate_left
            · intro wx hSx
              clear hSx
              go_simp
              try (with_reducible rfl)
            simp only [Act.put, List.setIfInBounds_toArray, List.set_cons_zero, List.set_cons_succ]
            refine wpAnyH_done (by kernel_rfl) ?_ _
            have HR := Lib.hid (HAX.out w7 HB7.out)
            clear HOB HOU HAX HSTR HS
            obtain ⟨u0c, u1c⟩ := HR.out.arr
            go_wp2_with fail
            (with_reducible refine (allRead HR.out 203427844 4 (by unfold In64; omega) 10 true (dst mz cl0 t2 false false true false) (claim_10 mz cl0 t2 false false false)).mono ?_)
            rintro e x1 ⟨rfl, ha⟩
            have H1 := Lib.hid ha
            clear u0c u1c
            obtain ⟨u0c, u1c⟩ := ha.arr
            clear ha
            go_wp2_with fail
            (with_reducible refine (allRead H1.out 203427844 4 (by unfold In64; omega) 0 true (dst mz cl0 t2 false false true false) (claim_0 mz cl0 t2 true false)).mono ?_)
            rintro e x2 ⟨rfl, ha⟩
            have H2 := Lib.hid ha
            clear u0c u1c
            obtain ⟨u0c, u1c⟩ := ha.arr
            clear ha
            go_wp2_with fail
            (with_reducible refine (allLinesQ H2.out false rfl).mono ?_)
            rintro e x3 ⟨p0, p1, p2, p4, p5, rfl, hb⟩
            have H3 := Lib.hid (H2.out.later hb)
            clear u0c u1c
            obtain ⟨u0c, u1c⟩ := H3.out.arr
            have hfd := fun wx => field_seip p0 p1 p2 false p4 p5 wx
            clear hb
            go_wp2_with fail
            (with_reducible refine (allLineQ H3.out (show 0 < 2 by omega) true hl0).mono ?_)
            rintro e wq ⟨rfl, rfl⟩
            go_wp2_with fail
            (with_reducible refine (allLineQ H3.out (show 1 < 2 by omega) false hl1).mono ?_)
            rintro e wq ⟨rfl, rfl⟩
            clear hfd
            go_wp2_with fail
            (with_reducible refine (allWrite H3.out 203427844 4 10 (by unfold In64; omega) (by unfold In64; omega) true (dst mz cl0 t2 true false false false) (done_10q mz cl0 t2 false false true hl0)).mono ?_)
            rintro e x4 ⟨rfl, ha⟩
            have H4 := Lib.hid ha
            clear u0c u1c
            obtain ⟨u0c, u1c⟩ := ha.arr
            clear ha
            go_wp2_with fail
            (with_reducible refine (allWrite H4.out 203427844 4 0 (by unfold In64; omega) (by unfold In64; omega) true (dst mz cl0 t2 true false false false) (done_0 mz cl0 t2 true false false false)).mono ?_)
            rintro e x5 ⟨rfl, ha⟩
            have H5 := Lib.hid ha
            clear u0c u1c
            obtain ⟨u0c, u1c⟩ := ha.arr
            clear ha
            have HAX : Hid (∀ wx, Below x5.heap.size x5 wx → All w b g vp ul ub ua (dst mz cl0 t2 true false false false) t2 wx) := Lib.hid fun wx hx => H5.out.later hx
            clear u0c u1c
            go_wp2_with fail
            refine wp_region_held_drew (S := fun wx => Below x5.heap.size x5 wx) (by kernel_rfl) ((Below.refl _ _).drew) (fun hHeld0 => ?_)
            have HS := Lib.hid hHeld0
            clear hHeld0
            refine takeD (i := 0) (some 260) (v := ?_) rfl rfl (by kernel_rfl) (by kernel_rfl) (by kernel_rfl) (fun _ _ _ h => h) (by rfl) HS.out ?_ ?_
            rotate_left
            · intro wx hSx
              clear hSx
              go_simp
              try (with_reducible rfl)
            simp only [Act.put, List.setIfInBounds_toArray, List.set_cons_zero, List.set_cons_succ]
            refine takeD (i := 3) (some 263) (v := ?_) rfl rfl (by kernel_rfl) (by kernel_rfl) (by kernel_rfl) (fun _ _ _ h => h) (by rfl) HS.out ?_ ?_
            rotate_left
            · intro wx hSx
              clear hSx
              go_simp
              try (with_reducible rfl)
            simp only [Act.put, List.setIfInBounds_toArray, List.set_cons_zero, List.set_cons_succ]
            refine takeD (i := 4) (some 264) (v := ?_) rfl rfl (by kernel_rfl) (by kernel_rfl) (by kernel_rfl) (fun _ _ _ h => h) (by rfl) HS.out ?_ ?_
            rotate_left
            · intro wx hSx
              obtain ⟨u0c, u1c⟩ := (HAX.out _ hSx).arr
              clear hSx
              go_simp
              try (with_reducible rfl)
            simp only [Act.put, List.setIfInBounds_toArray, List.set_cons_zero, List.set_cons_succ]
            refine wpAnyH_ready (rs := [1]) (by kernel_rfl) (by simp) ?_
            refine AllReadyH.cons rfl (fun K hK => ?_) AllReadyH.nil
            go_simp
            (with_reducible refine (allLinesQ (HAX.out _ HS.out) true rfl).mono ?_)
            rintro e x6 ⟨p0, p1, p2, p4, p5, rfl, hb⟩
            have HB6 : Hid (Below x5.heap.size x5 x6) := Lib.hid (HS.out.trans (hb.mono HS.out.size))
            clear hb
            go_simp
            refine hK.out _ _ ?_ (fun hHeld => ?_)
            · exact HB6.out
            clear hHeld hK K
            try simp only [Act.put, List.setIfInBounds_toArray, List.set_cons_zero, List.set_cons_succ]
            replace HS := HB6
            refine wpAnyH_more (T := fun wx => Below x6.heap.size x6 wx) (fun wx hx => HB6.out.trans (hx.mono HB6.out.size)) _ _ _ _ ?_
            replace HS : Hid (Below x6.heap.size x6 x6) := Lib.hid (Below.refl _ _)
            refine takeD (i := 2) (some 262) (v := ?_) rfl rfl (by kernel_rfl) (by kernel_rfl) (by kernel_rfl) (fun _ _ _ h => h) (by rfl) HS.out ?_ ?_
            rotate_left
            · intro wx hSx
              have hfd := field_seip p0 p1 p2 true p4 p5 wx
              clear hSx
              go_simp
              try (with_reducible rfl)
            simp only [Act.put, List.setIfInBounds_toArray, List.set_cons_zero, List.set_cons_succ]
            refine wpAnyH_ready (rs := [5]) (by kernel_rfl) (by simp) ?_
            refine AllReadyH.cons rfl (fun K hK => ?_) AllReadyH.nil
            go_simp
            (with_reducible refine (allLineQ (HAX.out _ (HB6.out.trans (HS.out.mono HB6.out.size))) (show 0 < 2 by omega) true hl0).mono ?_)
            rintro e wq ⟨rfl, rfl⟩
            go_simp
            refine hK.out _ _ ?_ (fun hHeld => ?_)
            · exact HS.out
            clear hHeld hK K
            try simp only [Act.put, List.setIfInBounds_toArray, List.set_cons_zero, List.set_cons_succ]
            refine takeD (i := 6) (some 266) (v := ?_) rfl rfl (by kernel_rfl) (by kernel_rfl) (by kernel_rfl) (fun _ _ _ h => h) (by rfl) HS.out ?_ ?_
            rotate_left
            · intro wx hSx
              clear hSx
              go_simp
              try (with_reducible rfl)
            simp only [Act.put, List.setIfInBounds_toArray, List.set_cons_zero, List.set_cons_succ]
            refine skipD (i := 7) (some 267) rfl rfl (by kernel_rfl) (by kernel_rfl) (by kernel_rfl) (fun _ _ _ h => h) (by rfl) HS.out ?_
            simp only [Act.put, List.setIfInBounds_toArray, List.set_cons_zero, List.set_cons_succ]
            refine skipD (i := 8) (some 268) rfl rfl (by kernel_rfl) (by kernel_rfl) (by kernel_rfl) (fun _ _ _ h => h) (by rfl) HS.out ?_
            simp only [Act.put, List.setIfInBounds_toArray, List.set_cons_zero, List.set_cons_succ]
            refine skipD (i := 9) (some 269) rfl rfl (by kernel_rfl) (by kernel_rfl) (by kernel_rfl) (fun _ _ _ h => h) (by rfl) HS.out ?_
            simp only [Act.put, List.setIfInBounds_toArray, List.set_cons_zero, List.set_cons_succ]
            refine takeD (i := 10) (some 270) (v := ?_) rfl rfl (by kernel_rfl) (by kernel_rfl) (by kernel_rfl) (fun _ _ _ h => h) (by rfl) HS.out ?_ ?_
            rotate_left
            · intro wx hSx
              clear hSx
              go_simp
              try (with_reducible rfl)
            simp only [Act.put, List.setIfInBounds_toArray, List.set_cons_zero, List.set_cons_succ]
            refine takeD (i := 11) (some 271) (v := ?_) rfl rfl (by kernel_rfl) (by kernel_rfl) (by kernel_rfl) (fun _ _ _ h => h) (by rfl) HS.out ?_ ?_
            rotate_left
            · intro wx hSx
              clear hSx
              go_simp
              try (with_reducible rfl)
            simp only [Act.put, List.setIfInBounds_toArray, List.set_cons_zero, List.set_cons_succ]
            refine wpAnyH_done (by kernel_rfl) ?_ _
            have HF := Lib.hid (HAX.out x6 HB6.out)
            clear HAX HS
            go_wp2
            go_roundg gg
            case measure => omega
            case rel => exact ⟨j + 1, by omega, by go_num, t2, by rw [← idle_is mz cl0 t2 true false hl0 hl1]; exact HF.out⟩
        · as_aux_lemma =>
            clear hi0 hi1
            go_wp2_with fail
            refine wp_region_held_drew (S := fun wx => Below wc.heap.size wc wx) (by kernel_rfl) ((Below.refl _ _).drew) (fun hHeld0 => ?_)
            have HS := Lib.hid hHeld0
            clear hHeld0
            refine takeD (i := 0) (some 185) (v := ?_) rfl rfl (by kernel_rfl) (by kernel_rfl) (by kernel_rfl) (fun _ _ _ h => h) (by rfl) HS.out ?_ ?_
            rotate_left
            · intro wx hSx
              clear hSx
              go_simp
              try (with_reducible rfl)
            simp only [Act.put, List.setIfInBounds_toArray, List.set_cons_zero, List.set_cons_succ]
            refine takeD (i := 1) (some 186) (v := ?_) rfl rfl (by kernel_rfl) (by kernel_rfl) (by kernel_rfl) (fun _ _ _ h => h) (by rfl) HS.out ?_ ?_
            rotate_left
            · intro wx hSx
              clear hSx
              go_simp
              try (with_reducible rfl)
            simp only [Act.put, List.setIfInBounds_toArray, List.set_cons_zero, List.set_cons_succ]
            refine takeD (i := 4) (some 189) (v := ?_) rfl rfl (by kernel_rfl) (by kernel_rfl) (by kernel_rfl) (fun _ _ _ h => h) (by rfl) HS.out ?_ ?_
            rotate_left
            · intro wx hSx
              clear hSx
              go_simp
              try (with_reducible rfl)
            simp only [Act.put, List.setIfInBounds_toArray, List.set_cons_zero, List.set_cons_succ]
            refine takeD (i := 5) (some 190) (v := ?_) rfl rfl (by kernel_rfl) (by kernel_rfl) (by kernel_rfl) (fun _ _ _ h => h) (by rfl) HS.out ?_ ?_
            rotate_left
            · intro wx hSx
              clear hSx
              go_simp
              try (with_reducible rfl)
            simp only [Act.put, List.setIfInBounds_toArray, List.set_cons_zero, List.set_cons_succ]
            refine takeD (i := 6) (some 191) (v := ?_) rfl rfl (by kernel_rfl) (by kernel_rfl) (by kernel_rfl) (fun _ _ _ h => h) (by rfl) HS.out ?_ ?_
            rotate_left
            · intro wx hSx
              have uk := (HAX.out _ hSx).arrK hk
              clear hSx
              go_simp
              try (with_reducible rfl)
            simp only [Act.put, List.setIfInBounds_toArray, List.set_cons_zero, List.set_cons_succ]
            refine wpAnyH_ready (rs := [2]) (by kernel_rfl) (by simp) ?_
            refine AllReadyH.cons rfl (fun K hK => ?_) AllReadyH.nil
            go_simp
            (with_reducible refine (HOB.out _ HS.out).mono ?_)
            rintro e w5 ⟨a5, c5, rfl, hb5, hr5⟩
            have HB5 : Hid (Below wc.heap.size wc w5) := Lib.hid (HS.out.trans (hb5.mono HS.out.size))
            have HCV5 : Hid (∀ wx, Below w5.heap.size w5 wx → (convert 39 9 (.slice a5 xo.length c5)).run Tryd.prog wx = .ok (.string sO) wx) := Lib.hid fun wx hx => HSTR.out wx _ (hr5.below hx)
            clear hb5 hr5
            go_simp
            refine hK.out _ _ ?_ (fun hHeld => ?_)
            · exact HB5.out
            clear hHeld hK K
            try simp only [Act.put, List.setIfInBounds_toArray, List.set_cons_zero, List.set_cons_succ]
            replace HS := HB5
            refine wpAnyH_more (T := fun wx => Below w5.heap.size w5 wx) (fun wx hx => HB5.out.trans (hx.mono HB5.out.size)) _ _ _ _ ?_
            replace HS : Hid (Below w5.heap.size w5 w5) := Lib.hid (Below.refl _ _)
            refine takeD (i := 3) (some 188) (v := ?_) rfl rfl (by kernel_rfl) (by kernel_rfl) (by kernel_rfl) (fun _ _ _ h => h) (by rfl) HS.out ?_ ?_
            rotate_left
            · intro wx hSx
              have hcv := HCV5.out wx hSx
              clear hSx
              go_simp
              try (with_reducible rfl)
            simp only [Act.put, List.setIfInBounds_toArray, List.set_cons_zero, List.set_cons_succ]
            refine wpAnyH_ready (rs := [7]) (by kernel_rfl) (by simp) ?_
            refine AllReadyH.cons rfl (fun K hK => ?_) AllReadyH.nil
            go_simp
            (with_reducible refine (HOU.out _ (HB5.out.trans (HS.out.mono HB5.out.size))).mono ?_)
            rintro e w6 ⟨a6, c6, rfl, hb6, hr6, _⟩
            have HB56 : Hid (Below w5.heap.size w5 w6) := Lib.hid (HS.out.trans (hb6.mono HS.out.size))
            have HB6 : Hid (Below wc.heap.size wc w6) := Lib.hid (HB5.out.trans (HB56.out.mono HB5.out.size))
            have HCV6 : Hid (∀ wx, Below w6.heap.size w6 wx → (convert 39 9 (.slice a6 xo.length c6)).run Tryd.prog wx = .ok (.string sO) wx) := Lib.hid fun wx hx => HSTR.out wx _ (hr6.below hx)
            clear hb6 hr6
            go_simp
            refine hK.out _ _ ?_ (fun hHeld => ?_)
            · exact HB56.out
            clear hHeld hK K
            try simp only [Act.put, List.setIfInBounds_toArray, List.set_cons_zero, List.set_cons_succ]
            replace HS := HB56
            refine wpAnyH_more (T := fun wx => Below w6.heap.size w6 wx) (fun wx hx => HB56.out.trans (hx.mono HB56.out.size)) _ _ _ _ ?_
            replace HS : Hid (Below w6.heap.size w6 w6) := Lib.hid (Below.refl _ _)
            refine takeD (i := 8) (some 193) (v := ?_) rfl rfl (by kernel_rfl) (by kernel_rfl) (by kernel_rfl) (fun _ _ _ h => h) (by rfl) HS.out ?_ ?_
            rotate_left
            · intro wx hSx
              have hcv := HCV6.out wx hSx
              clear hSx
              go_simp
              try (with_reducible rfl)
            simp only [Act.put, List.setIfInBounds_toArray, List.set_cons_zero, List.set_cons_succ]
            refine takeD (i := 9) (some 194) (v := ?_) rfl rfl (by kernel_rfl) (by kernel_rfl) (by kernel_rfl) (fun _ _ _ h => h) (by rfl) HS.out ?_ ?_
            rotate_left
            · intro wx hSx
              clear hSx
              go_simp
              try (with_reducible rfl)
            simp only [Act.put, List.setIfInBounds_toArray, List.set_cons_zero, List.set_cons_succ]
            refine takeD (i := 10) (some 195) (v := ?_) rfl rfl (by kernel_rfl) (by kernel_rfl) (by kernel_rfl) (fun _ _ _ h => h) (by rfl) HS.out ?_ ?_
            rotate_left
            · intro wx hSx
              clear hSx
              go_simp
              try (with_reducible rfl)
            simp only [Act.put, List.setIfInBounds_toArray, List.set_cons_zero, List.set_cons_succ]
            refine takeD (i := 11) (some 196) (v := ?_) rfl rfl (by kernel_rfl) (by kernel_rfl) (by kernel_rfl) (fun _ _ _ h => h) (by rfl) HS.out ?_ ?_
            rotate_left
            · intro wx hSx
              clear hSx
              go_simp
              try (with_reducible rfl)
            simp only [Act.put, List.setIfInBounds_toArray, List.set_cons_zero, List.set_cons_succ]
            refine takeD (i := 12) (some 197) (v := ?_) rfl rfl (by kernel_rfl) (by kernel_rfl) (by kernel_rfl) (fun _ _ _ h => h) (by rfl) HS.out ?_ ?_
            rotate_left
            · intro wx hSx
              obtain ⟨u0c, u1c⟩ := (HAX.out _ (HB6.out.trans (hSx.mono HB6.out.size))).arr
              clear hSx
              go_simp
              try (with_reducible rfl)
            simp only [Act.put, List.setIfInBounds_toArray, List.set_cons_zero, List.set_cons_succ]
            refine wpAnyH_ready (rs := [13]) (by kernel_rfl) (by simp) ?_
            refine AllReadyH.cons rfl (fun K hK => ?_) AllReadyH.nil
            go_simp
            (with_reducible refine (allLineQ (HAX.out _ (HB6.out.trans (HS.out.mono HB6.out.size))) (show 0 < 2 by omega) true hl0).mono ?_)
            rintro e wq ⟨rfl, rfl⟩
            go_simp
            refine hK.out _ _ ?_ (fun hHeld => ?_)
            · exact HS.out
            clear hHeld hK K
            try simp only [Act.put, List.setIfInBounds_toArray, List.set_cons_zero, List.set_cons_succ]
            refine takeD (i := 14) (some 199) (v := ?_) rfl rfl (by kernel_rfl) (by kernel_rfl) (by kernel_rfl) (fun _ _ _ h => h) (by rfl) HS.out ?_ ?_
            rotate_left
            · intro wx hSx
              clear hSx
              go_simp
              try (with_reducible rfl)
            simp only [Act.put, List.setIfInBounds_toArray, List.set_cons_zero, List.set_cons_succ]
            refine skipD (i := 15) (some 200) rfl rfl (by kernel_rfl) (by kernel_rfl) (by kernel_rfl) (fun _ _ _ h => h) (by rfl) HS.out ?_
            simp only [Act.put, List.setIfInBounds_toArray, List.set_cons_zero, List.set_cons_succ]
            refine skipD (i := 16) (some 201) rfl rfl (by kernel_rfl) (by kernel_rfl) (by kernel_rfl) (fun _ _ _ h => h) (by rfl) HS.out ?_
            simp only [Act.put, List.setIfInBounds_toArray, List.set_cons_zero, List.set_cons_succ]
            refine skipD (i := 17) (some 202) rfl rfl (by kernel_rfl) (by kernel_rfl) (by kernel_rfl) (fun _ _ _ h => h) (by rfl) HS.out ?_
            simp only [Act.put, List.setIfInBounds_toArray, List.set_cons_zero, List.set_cons_succ]
            refine takeD (i := 18) (some 203) (v := ?_) rfl rfl (by kernel_rfl) (by kernel_rfl) (by kernel_rfl) (fun _ _ _ h => h) (by rfl) HS.out ?_ ?_
            rotate_left
            · intro wx hSx
              clear hSx
              go_simp
              try (with_reducible rfl)
            simp only [Act.put, List.setIfInBounds_toArray, List.set_cons_zero, List.set_cons_succ]
            refine takeD (i := 19) (some 204) (v := ?_) rfl rfl (by kernel_rfl) (by kernel_rfl) (by kernel_rfl) (fun _ _ _ h => h) (by rfl) HS.out ?_ ?_
            rotate_left
            · intro wx hSx
              clear hSx
              go_simp
              try (with_reducible rfl)
            simp only [Act.put, List.setIfInBounds_toArray, List.set_cons_zero, List.set_cons_succ]
            refine takeD (i := 20) (some 205) (v := ?_) rfl rfl (by kernel_rfl) (by kernel_rfl) (by kernel_rfl) (fun _ _ _ h => h) (by rfl) HS.out ?_ ?_
            rotate_left
            · intro wx hSx
              clear hSx
              go_simp
              try (with_reducible rfl)
            simp only [Act.put, List.setIfInBounds_toArray, List.set_cons_zero, List.set_cons_succ]
            refine wpAnyH_ready (rs := [21]) (by kernel_rfl) (by simp) ?_
            refine AllReadyH.cons rfl (fun K hK => ?_) AllReadyH.nil
            go_simp
            (with_reducible refine (allLinesQ (HAX.out _ (HB6.out.trans (HS.out.mono HB6.out.size))) true rfl).mono ?_)
            rintro e w7 ⟨p0, p1, p2, p4, p5, rfl, hb7⟩
            have HB67 : Hid (Below w6.heap.size w6 w7) := Lib.hid (HS.out.trans (hb7.mono HS.out.size))
            have HB7 : Hid (Below wc.heap.size wc w7) := Lib.hid (HB6.out.trans (HB67.out.mono HB6.out.size))
            clear hb7
            go_simp
            refine hK.out _ _ ?_ (fun hHeld => ?_)
            · exact HB67.out
            clear hHeld hK K
            try simp only [Act.put, List.setIfInBounds_toArray, List.set_cons_zero, List.set_cons_succ]
            replace HS := HB67
            refine wpAnyH_more (T := fun wx => Below w7.heap.size w7 wx) (fun wx hx => HB67.out.trans (hx.mono HB67.out.size)) _ _ _ _ ?_
            replace HS : Hid (Below w7.heap.size w7 w7) := Lib.hid (Below.refl _ _)
            refine takeD (i := 22) (some 207) (v := ?_) rfl rfl (by kernel_rfl) (by kernel_rfl) (by kernel_rfl) (fun _ _ _ h => h) (by rfl) HS.out ?_ ?_
            rotate_left
            · intro wx hSx
              have hfd := field_seip p0 p1 p2 true p4 p5 wx
              clear hSx
              go_simp
              try (with_reducible rfl)
            simp only [Act.put, List.setIfInBounds_toArray, List.set_cons_zero, List.set_cons_succ]
            refine takeD (i := 23) (some 208) (v := ?_) rfl rfl (by kernel_rfl) (by kernel_rfl) (by kernel_rfl) (fun _ _ _ h => h) (by rfl) HS.out ?_ ?_
            rotate_left
            · intro wx hSx
              clear hSx
              go_simp
              try (with_reducible rfl)
            simp only [Act.put, List.setIfInBounds_toArray, List.set_cons_zero, List.set_cons_succ]
            refine takeD (i := 24) (some 209) (v := ?_) rfl rfl (by kernel_rfl) (by kernel_rfl) (by kernel_rfl) (fun _ _ _ h => h) (by rfl) HS.out ?_ ?_
            rotate_left
            · intro wx hSx
              clear hSx
              go_simp
              try (with_reducible rfl)
            simp only [Act.put, List.setIfInBounds_toArray, List.set_cons_zero, List.set_cons_succ]
            refine takeD (i := 25) (some 210) (v := ?_) rfl rfl (by kernel_rfl) (by kernel_rfl) (by kernel_rfl) (fun _ _ _ h => h) (by rfl) HS.out ?_ ?_
            rotate_left
            · intro wx hSx
              clear hSx
              go_simp
              try (with_reducible rfl)
            simp only [Act.put, List.setIfInBounds_toArray, List.set_cons_zero, List.set_cons_succ]
            refine wpAnyH_done (by kernel_rfl) ?_ _
            have HR := Lib.hid (HAX.out w7 HB7.out)
            clear HOB HOU HAX HSTR HS
            obtain ⟨u0c, u1c⟩ := HR.out.arr
            go_wp2_with fail
            (with_reducible refine (allRead HR.out 203427844 4 (by unfold In64; omega) 10 true (dst mz cl0 t2 false true true false) (claim_10 mz cl0 t2 true false false)).mono ?_)
            rintro e x1 ⟨rfl, ha⟩
            have H1 := Lib.hid ha
            clear u0c u1c
            obtain ⟨u0c, u1c⟩ := ha.arr
            clear ha
            go_wp2_with fail
            (with_reducible refine (allRead H1.out 203427844 4 (by unfold In64; omega) 11 true (dst mz cl0 t2 false false true true) (claim_11 mz cl0 t2 true false)).mono ?_)
            rintro e x2 ⟨rfl, ha⟩
            have H2 := Lib.hid ha
            clear u0c u1c
            obtain ⟨u0c, u1c⟩ := ha.arr
            clear ha
            go_wp2_with fail
            (with_reducible refine (allLinesQ H2.out false rfl).mono ?_)
            rintro e x3 ⟨p0, p1, p2, p4, p5, rfl, hb⟩
            have H3 := Lib.hid (H2.out.later hb)
            clear u0c u1c
            obtain ⟨u0c, u1c⟩ := H3.out.arr
            have hfd := fun wx => field_seip p0 p1 p2 false p4 p5 wx
            clear hb
            go_wp2_with fail
            (with_reducible refine (allLineQ H3.out (show 0 < 2 by omega) true hl0).mono ?_)
            rintro e wq ⟨rfl, rfl⟩
            go_wp2_with fail
            (with_reducible refine (allLineQ H3.out (show 1 < 2 by omega) false hl1).mono ?_)
            rintro e wq ⟨rfl, rfl⟩
            clear hfd
            go_wp2_with fail
            (with_reducible refine (allWrite H3.out 203427844 4 10 (by unfold In64; omega) (by unfold In64; omega) true (dst mz cl0 t2 true false false true) (done_10q mz cl0 t2 false true true hl0)).mono ?_)
            rintro e x4 ⟨rfl, ha⟩
            have H4 := Lib.hid ha
            clear u0c u1c
            obtain ⟨u0c, u1c⟩ := ha.arr
            clear ha
            go_wp2_with fail
            (with_reducible refine (allWrite H4.out 203427844 4 11 (by unfold In64; omega) (by unfold In64; omega) true (dst mz cl0 t2 true false false false) (done_11q mz cl0 t2 true false false hl1)).mono ?_)
            rintro e x5 ⟨rfl, ha⟩
            have H5 := Lib.hid ha
            clear u0c u1c
            obtain ⟨u0c, u1c⟩ := ha.arr
            clear ha
            have HAX : Hid (∀ wx, Below x5.heap.size x5 wx → All w b g vp ul ub ua (dst mz cl0 t2 true false false false) t2 wx) := Lib.hid fun wx hx => H5.out.later hx
            clear u0c u1c
            go_wp2_with fail
            refine wp_region_held_drew (S := fun wx => Below x5.heap.size x5 wx) (by kernel_rfl) ((Below.refl _ _).drew) (fun hHeld0 => ?_)
            have HS := Lib.hid hHeld0
            clear hHeld0
            refine takeD (i := 0) (some 260) (v := ?_) rfl rfl (by kernel_rfl) (by kernel_rfl) (by kernel_rfl) (fun _ _ _ h => h) (by rfl) HS.out ?_ ?_
            rotate_left
            · intro wx hSx
              clear hSx
              go_simp
              try (with_reducible rfl)
            simp only [Act.put, List.setIfInBounds_toArray, List.set_cons_zero, List.set_cons_succ]
            refine takeD (i := 3) (some 263) (v := ?_) rfl rfl (by kernel_rfl) (by kernel_rfl) (by kernel_rfl) (fun _ _ _ h => h) (by rfl) HS.out ?_ ?_
            rotate_left
            · intro wx hSx
              clear hSx
              go_simp
              try (with_reducible rfl)
            simp only [Act.put, List.setIfInBounds_toArray, List.set_cons_zero, List.set_cons_succ]
            refine takeD (i := 4) (some 264) (v := ?_) rfl rfl (by kernel_rfl) (by kernel_rfl) (by kernel_rfl) (fun _ _ _ h => h) (by rfl) HS.out ?_ ?_
            rotate_left
            · intro wx hSx
              obtain ⟨u0c, u1c⟩ := (HAX.out _ hSx).arr
              clear hSx
              go_simp
              try (with_reducible rfl)
            simp only [Act.put, List.setIfInBounds_toArray, List.set_cons_zero, List.set_cons_succ]
            refine wpAnyH_ready (rs := [1]) (by kernel_rfl) (by simp) ?_
            refine AllReadyH.cons rfl (fun K hK => ?_) AllReadyH.nil
            go_simp
            (with_reducible refine (allLinesQ (HAX.out _ HS.out) true rfl).mono ?_)
            rintro e x6 ⟨p0, p1, p2, p4, p5, rfl, hb⟩
            have HB6 : Hid (Below x5.heap.size x5 x6) := Lib.hid (HS.out.trans (hb.mono HS.out.size))
            clear hb
            go_simp
            refine hK.out _ _ ?_ (fun hHeld => ?_)
            · exact HB6.out
            clear hHeld hK K
            try simp only [Act.put, List.setIfInBounds_toArray, List.set_cons_zero, List.set_cons_succ]
            replace HS := HB6
            refine wpAnyH_more (T := fun wx => Below x6.heap.size x6 wx) (fun wx hx => HB6.out.trans (hx.mono HB6.out.size)) _ _ _ _ ?_
            replace HS : Hid (Below x6.heap.size x6 x6) := Lib.hid (Below.refl _ _)
            refine takeD (i := 2) (some 262) (v := ?_) rfl rfl (by kernel_rfl) (by kernel_rfl) (by kernel_rfl) (fun _ _ _ h => h) (by rfl) HS.out ?_ ?_
            rotate_left
            · intro wx hSx
              have hfd := field_seip p0 p1 p2 true p4 p5 wx
              clear hSx
              go_simp
              try (with_reducible rfl)
            simp only [Act.put, List.setIfInBounds_toArray, List.set_cons_zero, List.set_cons_succ]
            refine wpAnyH_ready (rs := [5]) (by kernel_rfl) (by simp) ?_
            refine AllReadyH.cons rfl (fun K hK => ?_) AllReadyH.nil
            go_simp
            (with_reducible refine (allLineQ (HAX.out _ (HB6.out.trans (HS.out.mono HB6.out.size))) (show 0 < 2 by omega) true hl0).mono ?_)
            rintro e wq ⟨rfl, rfl⟩
            go_simp
            refine hK.out _ _ ?_ (fun hHeld => ?_)
            · exact HS.out
            clear hHeld hK K
            try simp only [Act.put, List.setIfInBounds_toArray, List.set_cons_zero, List.set_cons_succ]
            refine takeD (i := 6) (some 266) (v := ?_) rfl rfl (by kernel_rfl) (by kernel_rfl) (by kernel_rfl) (fun _ _ _ h => h) (by rfl) HS.out ?_ ?_
            rotate_left
            · intro wx hSx
              clear hSx
              go_simp
              try (with_reducible rfl)
            simp only [Act.put, List.setIfInBounds_toArray, List.set_cons_zero, List.set_cons_succ]
            refine skipD (i := 7) (some 267) rfl rfl (by kernel_rfl) (by kernel_rfl) (by kernel_rfl) (fun _ _ _ h => h) (by rfl) HS.out ?_
            simp only [Act.put, List.setIfInBounds_toArray, List.set_cons_zero, List.set_cons_succ]
            refine skipD (i := 8) (some 268) rfl rfl (by kernel_rfl) (by kernel_rfl) (by kernel_rfl) (fun _ _ _ h => h) (by rfl) HS.out ?_
            simp only [Act.put, List.setIfInBounds_toArray, List.set_cons_zero, List.set_cons_succ]
            refine skipD (i := 9) (some 269) rfl rfl (by kernel_rfl) (by kernel_rfl) (by kernel_rfl) (fun _ _ _ h => h) (by rfl) HS.out ?_
            simp only [Act.put, List.setIfInBounds_toArray, List.set_cons_zero, List.set_cons_succ]
            refine takeD (i := 10) (some 270) (v := ?_) rfl rfl (by kernel_rfl) (by kernel_rfl) (by kernel_rfl) (fun _ _ _ h => h) (by rfl) HS.out ?_ ?_
            rotate_left
            · intro wx hSx
              clear hSx
              go_simp
              try (with_reducible rfl)
            simp only [Act.put, List.setIfInBounds_toArray, List.set_cons_zero, List.set_cons_succ]
            refine takeD (i := 11) (some 271) (v := ?_) rfl rfl (by kernel_rfl) (by kernel_rfl) (by kernel_rfl) (fun _ _ _ h => h) (by rfl) HS.out ?_ ?_
            rotate_left
            · intro wx hSx
              clear hSx
              go_simp
              try (with_reducible rfl)
            simp only [Act.put, List.setIfInBounds_toArray, List.set_cons_zero, List.set_cons_succ]
            refine wpAnyH_done (by kernel_rfl) ?_ _
            have HF := Lib.hid (HAX.out x6 HB6.out)
            clear HAX HS
            go_wp2
            go_roundg gg
            case measure => omega
            case rel => exact ⟨j + 1, by omega, by go_num, t2, by rw [← idle_is mz cl0 t2 true false hl0 hl1]; exact HF.out⟩
        · exact absurd (hi0 hl0) (by decide)
        · exact absurd (hi0 hl0) (by decide)
        · exact absurd (hi1 hl1) (by decide)
        · as_aux_lemma =>
            clear hi0 hi1
            go_wp2_with fail
            refine wp_region_held_drew (S := fun wx => Below wc.heap.size wc wx) (by kernel_rfl) ((Below.refl _ _).drew) (fun hHeld0 => ?_)
            have HS := Lib.hid hHeld0
            clear hHeld0
            refine takeD (i := 0) (some 185) (v := ?_) rfl rfl (by kernel_rfl) (by kernel_rfl) (by kernel_rfl) (fun _ _ _ h => h) (by rfl) HS.out ?_ ?_
            rotate_left
            · intro wx hSx
              clear hSx
              go_simp
              try (with_reducible rfl)
            simp only [Act.put, List.setIfInBounds_toArray, List.set_cons_zero, List.set_cons_succ]
            refine takeD (i := 1) (some 186) (v := ?_) rfl rfl (by kernel_rfl) (by kernel_rfl) (by kernel_rfl) (fun _ _ _ h => h) (by rfl) HS.out ?_ ?_
            rotate_left
            · intro wx hSx
              clear hSx
              go_simp
              try (with_reducible rfl)
            simp only [Act.put, List.setIfInBounds_toArray, List.set_cons_zero, List.set_cons_succ]
            refine takeD (i := 4) (some 189) (v := ?_) rfl rfl (by kernel_rfl) (by kernel_rfl) (by kernel_rfl) (fun _ _ _ h => h) (by rfl) HS.out ?_ ?_
            rotate_left
            · intro wx hSx
              clear hSx
              go_simp
              try (with_reducible rfl)
            simp only [Act.put, List.setIfInBounds_toArray, List.set_cons_zero, List.set_cons_succ]
            refine takeD (i := 5) (some 190) (v := ?_) rfl rfl (by kernel_rfl) (by kernel_rfl) (by kernel_rfl) (fun _ _ _ h => h) (by rfl) HS.out ?_ ?_
            rotate_left
            · intro wx hSx
              clear hSx
              go_simp
              try (with_reducible rfl)
            simp only [Act.put, List.setIfInBounds_toArray, List.set_cons_zero, List.set_cons_succ]
            refine takeD (i := 6) (some 191) (v := ?_) rfl rfl (by kernel_rfl) (by kernel_rfl) (by kernel_rfl) (fun _ _ _ h => h) (by rfl) HS.out ?_ ?_
            rotate_left
            · intro wx hSx
              have uk := (HAX.out _ hSx).arrK hk
              clear hSx
              go_simp
              try (with_reducible rfl)
            simp only [Act.put, List.setIfInBounds_toArray, List.set_cons_zero, List.set_cons_succ]
            refine wpAnyH_ready (rs := [2]) (by kernel_rfl) (by simp) ?_
            refine AllReadyH.cons rfl (fun K hK => ?_) AllReadyH.nil
            go_simp
            (with_reducible refine (HOB.out _ HS.out).mono ?_)
            rintro e w5 ⟨a5, c5, rfl, hb5, hr5⟩
            have HB5 : Hid (Below wc.heap.size wc w5) := Lib.hid (HS.out.trans (hb5.mono HS.out.size))
            have HCV5 : Hid (∀ wx, Below w5.heap.size w5 wx → (convert 39 9 (.slice a5 xo.length c5)).run Tryd.prog wx = .ok (.string sO) wx) := Lib.hid fun wx hx => HSTR.out wx _ (hr5.below hx)
            clear hb5 hr5
            go_simp
            refine hK.out _ _ ?_ (fun hHeld => ?_)
            · exact HB5.out
            clear hHeld hK K
            try simp only [Act.put, List.setIfInBounds_toArray, List.set_cons_zero, List.set_cons_succ]
            replace HS := HB5
            refine wpAnyH_more (T := fun wx => Below w5.heap.size w5 wx) (fun wx hx => HB5.out.trans (hx.mono HB5.out.size)) _ _ _ _ ?_
            replace HS : Hid (Below w5.heap.size w5 w5) := Lib.hid (Below.refl _ _)
            refine takeD (i := 3) (some 188) (v := ?_) rfl rfl (by kernel_rfl) (by kernel_rfl) (by kernel_rfl) (fun _ _ _ h => h) (by rfl) HS.out ?_ ?_
            rotate_left
            · intro wx hSx
              have hcv := HCV5.out wx hSx
              clear hSx
              go_simp
              try (with_reducible rfl)
            simp only [Act.put, List.setIfInBounds_toArray, List.set_cons_zero, List.set_cons_succ]
            refine wpAnyH_ready (rs := [7]) (by kernel_rfl) (by simp) ?_
            refine AllReadyH.cons rfl (fun K hK => ?_) AllReadyH.nil
            go_simp
            (with_reducible refine (HOU.out _ (HB5.out.trans (HS.out.mono HB5.out.size))).mono ?_)
            rintro e w6 ⟨a6, c6, rfl, hb6, hr6, _⟩
            have HB56 : Hid (Below w5.heap.size w5 w6) := Lib.hid (HS.out.trans (hb6.mono HS.out.size))
            have HB6 : Hid (Below wc.heap.size wc w6) := Lib.hid (HB5.out.trans (HB56.out.mono HB5.out.size))
            have HCV6 : Hid (∀ wx, Below w6.heap.size w6 wx → (convert 39 9 (.slice a6 xo.length c6)).run Tryd.prog wx = .ok (.string sO) wx) := Lib.hid fun wx hx => HSTR.out wx _ (hr6.below hx)
            clear hb6 hr6
            go_simp
            refine hK.out _ _ ?_ (fun hHeld => ?_)
            · exact HB56.out
            clear hHeld hK K
            try simp only [Act.put, List.setIfInBounds_toArray, List.set_cons_zero, List.set_cons_succ]
            replace HS := HB56
            refine wpAnyH_more (T := fun wx => Below w6.heap.size w6 wx) (fun wx hx => HB56.out.trans (hx.mono HB56.out.size)) _ _ _ _ ?_
            replace HS : Hid (Below w6.heap.size w6 w6) := Lib.hid (Below.refl _ _)
            refine takeD (i := 8) (some 193) (v := ?_) rfl rfl (by kernel_rfl) (by kernel_rfl) (by kernel_rfl) (fun _ _ _ h => h) (by rfl) HS.out ?_ ?_
            rotate_left
            · intro wx hSx
              have hcv := HCV6.out wx hSx
              clear hSx
              go_simp
              try (with_reducible rfl)
            simp only [Act.put, List.setIfInBounds_toArray, List.set_cons_zero, List.set_cons_succ]
            refine takeD (i := 9) (some 194) (v := ?_) rfl rfl (by kernel_rfl) (by kernel_rfl) (by kernel_rfl) (fun _ _ _ h => h) (by rfl) HS.out ?_ ?_
            rotate_left
            · intro wx hSx
              clear hSx
              go_simp
              try (with_reducible rfl)
            simp only [Act.put, List.setIfInBounds_toArray, List.set_cons_zero, List.set_cons_succ]
            refine takeD (i := 10) (some 195) (v := ?_) rfl rfl (by kernel_rfl) (by kernel_rfl) (by kernel_rfl) (fun _ _ _ h => h) (by rfl) HS.out ?_ ?_
            rotate_left
            · intro wx hSx
              clear hSx
              go_simp
              try (with_reducible rfl)
            simp only [Act.put, List.setIfInBounds_toArray, List.set_cons_zero, List.set_cons_succ]
            refine takeD (i := 11) (some 196) (v := ?_) rfl rfl (by kernel_rfl) (by kernel_rfl) (by kernel_rfl) (fun _ _ _ h => h) (by rfl) HS.out ?_ ?_
            rotate_left
            · intro wx hSx
              clear hSx
              go_simp
              try (with_reducible rfl)
            simp only [Act.put, List.setIfInBounds_toArray, List.set_cons_zero, List.set_cons_succ]
            refine takeD (i := 12) (some 197) (v := ?_) rfl rfl (by kernel_rfl) (by kernel_rfl) (by kernel_rfl) (fun _ _ _ h => h) (by rfl) HS.out ?_ ?_
            rotate_left
            · intro wx hSx
              obtain ⟨u0c, u1c⟩ := (HAX.out _ (HB6.out.trans (hSx.mono HB6.out.size))).arr
              clear hSx
              go_simp
              try (with_reducible rfl)
            simp only [Act.put, List.setIfInBounds_toArray, List.set_cons_zero, List.set_cons_succ]
            refine wpAnyH_ready (rs := [13]) (by kernel_rfl) (by simp) ?_
            refine AllReadyH.cons rfl (fun K hK => ?_) AllReadyH.nil
            go_simp
            (with_reducible refine (allLineQ (HAX.out _ (HB6.out.trans (HS.out.mono HB6.out.size))) (show 0 < 2 by omega) true hl0).mono ?_)
            rintro e wq ⟨rfl, rfl⟩
            go_simp
            refine hK.out _ _ ?_ (fun hHeld => ?_)
            · exact HS.out
            clear hHeld hK K
            try simp only [Act.put, List.setIfInBounds_toArray, List.set_cons_zero, List.set_cons_succ]
            refine takeD (i := 14) (some 199) (v := ?_) rfl rfl (by kernel_rfl) (by kernel_rfl) (by kernel_rfl) (fun _ _ _ h => h) (by rfl) HS.out ?_ ?_
            rotate_left
            · intro wx hSx
              clear hSx
              go_simp
              try (with_reducible rfl)
            simp only [Act.put, List.setIfInBounds_toArray, List.set_cons_zero, List.set_cons_succ]
            refine skipD (i := 15) (some 200) rfl rfl (by kernel_rfl) (by kernel_rfl) (by kernel_rfl) (fun _ _ _ h => h) (by rfl) HS.out ?_
            simp only [Act.put, List.setIfInBounds_toArray, List.set_cons_zero, List.set_cons_succ]
            refine skipD (i := 16) (some 201) rfl rfl (by kernel_rfl) (by kernel_rfl) (by kernel_rfl) (fun _ _ _ h => h) (by rfl) HS.out ?_
            simp only [Act.put, List.setIfInBounds_toArray, List.set_cons_zero, List.set_cons_succ]
            refine skipD (i := 17) (some 202) rfl rfl (by kernel_rfl) (by kernel_rfl) (by kernel_rfl) (fun _ _ _ h => h) (by rfl) HS.out ?_
            simp only [Act.put, List.setIfInBounds_toArray, List.set_cons_zero, List.set_cons_succ]
            refine takeD (i := 18) (some 203) (v := ?_) rfl rfl (by kernel_rfl) (by kernel_rfl) (by kernel_rfl) (fun _ _ _ h => h) (by rfl) HS.out ?_ ?_
            rotate_left
            · intro wx hSx
              clear hSx
              go_simp
              try (with_reducible rfl)
            simp only [Act.put, List.setIfInBounds_toArray, List.set_cons_zero, List.set_cons_succ]
            refine takeD (i := 19) (some 204) (v := ?_) rfl rfl (by kernel_rfl) (by kernel_rfl) (by kernel_rfl) (fun _ _ _ h => h) (by rfl) HS.out ?_ ?_
            rotate_left
            · intro wx hSx
              clear hSx
              go_simp
              try (with_reducible rfl)
            simp only [Act.put, List.setIfInBounds_toArray, List.set_cons_zero, List.set_cons_succ]
            refine takeD (i := 20) (some 205) (v := ?_) rfl rfl (by kernel_rfl) (by kernel_rfl) (by kernel_rfl) (fun _ _ _ h => h) (by rfl) HS.out ?_ ?_
            rotate_left
            · intro wx hSx
              clear hSx
              go_simp
              try (with_reducible rfl)
            simp only [Act.put, List.setIfInBounds_toArray, List.set_cons_zero, List.set_cons_succ]
            refine wpAnyH_ready (rs := [21]) (by kernel_rfl) (by simp) ?_
            refine AllReadyH.cons rfl (fun K hK => ?_) AllReadyH.nil
            go_simp
            (with_reducible refine (allLinesQ (HAX.out _ (HB6.out.trans (HS.out.mono HB6.out.size))) true rfl).mono ?_)
            rintro e w7 ⟨p0, p1, p2, p4, p5, rfl, hb7⟩
            have HB67 : Hid (Below w6.heap.size w6 w7) := Lib.hid (HS.out.trans (hb7.mono HS.out.size))
            have HB7 : Hid (Below wc.heap.size wc w7) := Lib.hid (HB6.out.trans (HB67.out.mono HB6.out.size))
            clear hb7
            go_simp
            refine hK.out _ _ ?_ (fun hHeld => ?_)
            · exact HB67.out
            clear hHeld hK K
            try simp only [Act.put, List.setIfInBounds_toArray, List.set_cons_zero, List.set_cons_succ]
            replace HS := HB67
            refine wpAnyH_more (T := fun wx => Below w7.heap.size w7 wx) (fun wx hx => HB67.out.trans (hx.mono HB67.out.size)) _ _ _ _ ?_
            replace HS : Hid (Below w7.heap.size w7 w7) := Lib.hid (Below.refl _ _)
            refine takeD (i := 22) (some 207) (v := ?_) rfl rfl (by kernel_rfl) (by kernel_rfl) (by kernel_rfl) (fun _ _ _ h => h) (by rfl) HS.out ?_ ?_
            rotate_left
            · intro wx hSx
              have hfd := field_seip p0 p1 p2 true p4 p5 wx
              clear hSx
              go_simp
              try (with_reducible rfl)
            simp only [Act.put, List.setIfInBounds_toArray, List.set_cons_zero, List.set_cons_succ]
            refine takeD (i := 23) (some 208) (v := ?_) rfl rfl (by kernel_rfl) (by kernel_rfl) (by kernel_rfl) (fun _ _ _ h => h) (by rfl) HS.out ?_ ?_
            rotate_left
            · intro wx hSx
              clear hSx
              go_simp
              try (with_reducible rfl)
            simp only [Act.put, List.setIfInBounds_toArray, List.set_cons_zero, List.set_cons_succ]
            refine takeD (i := 24) (some 209) (v := ?_) rfl rfl (by kernel_rfl) (by kernel_rfl) (by kernel_rfl) (fun _ _ _ h => h) (by rfl) HS.out ?_ ?_
            rotate_left
            · intro wx hSx
              clear hSx
              go_simp
              try (with_reducible rfl)
            simp only [Act.put, List.setIfInBounds_toArray, List.set_cons_zero, List.set_cons_succ]
            refine takeD (i := 25) (some 210) (v := ?_) rfl rfl (by kernel_rfl) (by kernel_rfl) (by kernel_rfl) (fun _ _ _ h => h) (by rfl) HS.out ?_ ?_
            rotate_left
            · intro wx hSx
              clear hSx
              go_simp
              try (with_reducible rfl)
            simp only [Act.put, List.setIfInBounds_toArray, List.set_cons_zero, List.set_cons_succ]
            refine wpAnyH_done (by kernel_rfl) ?_ _
            have HR := Lib.hid (HAX.out w7 HB7.out)
            clear HOB HOU HAX HSTR HS
            obtain ⟨u0c, u1c⟩ := HR.out.arr
            go_wp2_with fail
            (with_reducible refine (allRead HR.out 203427844 4 (by unfold In64; omega) 10 true (dst mz cl0 t2 false true true false) (claim_10 mz cl0 t2 true false false)).mono ?_)
            rintro e x1 ⟨rfl, ha⟩
            have H1 := Lib.hid ha
            clear u0c u1c
            obtain ⟨u0c, u1c⟩ := ha.arr
            clear ha
            go_wp2_with fail
            (with_reducible refine (allRead H1.out 203427844 4 (by unfold In64; omega) 11 true (dst mz cl0 t2 false false true true) (claim_11 mz cl0 t2 true false)).mono ?_)
            rintro e x2 ⟨rfl, ha⟩
            have H2 := Lib.hid ha
            clear u0c u1c
            obtain ⟨u0c, u1c⟩ := ha.arr
            clear ha
            go_wp2_with fail
            (with_reducible refine (allLinesQ H2.out false rfl).mono ?_)
            rintro e x3 ⟨p0, p1, p2, p4, p5, rfl, hb⟩
            have H3 := Lib.hid (H2.out.later hb)
            clear u0c u1c
            obtain ⟨u0c, u1c⟩ := H3.out.arr
            have hfd := fun wx => field_seip p0 p1 p2 false p4 p5 wx
            clear hb
            go_wp2_with fail
            (with_reducible refine (allLineQ H3.out (show 0 < 2 by omega) true hl0).mono ?_)
            rintro e wq ⟨rfl, rfl⟩
            go_wp2_with fail
            (with_reducible refine (allLineQ H3.out (show 1 < 2 by omega) true hl1).mono ?_)
            rintro e wq ⟨rfl, rfl⟩
            clear hfd
            go_wp2_with fail
            (with_reducible refine (allWrite H3.out 203427844 4 10 (by unfold In64; omega) (by unfold In64; omega) true (dst mz cl0 t2 true false false true) (done_10q mz cl0 t2 false true true hl0)).mono ?_)
            rintro e x4 ⟨rfl, ha⟩
            have H4 := Lib.hid ha
            clear u0c u1c
            obtain ⟨u0c, u1c⟩ := ha.arr
            clear ha
            go_wp2_with fail
            (with_reducible refine (allWrite H4.out 203427844 4 11 (by unfold In64; omega) (by unfold In64; omega) true (dst mz cl0 t2 true true false false) (done_11q mz cl0 t2 true false true hl1)).mono ?_)
            rintro e x5 ⟨rfl, ha⟩
            have H5 := Lib.hid ha
            clear u0c u1c
            obtain ⟨u0c, u1c⟩ := ha.arr
            clear ha
            have HAX : Hid (∀ wx, Below x5.heap.size x5 wx → All w b g vp ul ub ua (dst mz cl0 t2 true true false false) t2 wx) := Lib.hid fun wx hx => H5.out.later hx
            clear u0c u1c
            go_wp2_with fail
            refine wp_region_held_drew (S := fun wx => Below x5.heap.size x5 wx) (by kernel_rfl) ((Below.refl _ _).drew) (fun hHeld0 => ?_)
            have HS := Lib.hid hHeld0
            clear hHeld0
            refine takeD (i := 0) (some 260) (v := ?_) rfl rfl (by kernel_rfl) (by kernel_rfl) (by kernel_rfl) (fun _ _ _ h => h) (by rfl) HS.out ?_ ?_
            rotate_left
            · intro wx hSx
              clear hSx
              go_simp
              try (with_reducible rfl)
            simp only [Act.put, List.setIfInBounds_toArray, List.set_cons_zero, List.set_cons_succ]
            refine takeD (i := 3) (some 263) (v := ?_) rfl rfl (by kernel_rfl) (by kernel_rfl) (by kernel_rfl) (fun _ _ _ h => h) (by rfl) HS.out ?_ ?_
            rotate_left
            · intro wx hSx
              clear hSx
              go_simp
              try (with_reducible rfl)
            simp only [Act.put, List.setIfInBounds_toArray, List.set_cons_zero, List.set_cons_succ]
            refine takeD (i := 4) (some 264) (v := ?_) rfl rfl (by kernel_rfl) (by kernel_rfl) (by kernel_rfl) (fun _ _ _ h => h) (by rfl) HS.out ?_ ?_
            rotate_left
            · intro wx hSx
              obtain ⟨u0c, u1c⟩ := (HAX.out _ hSx).arr
              clear hSx
              go_simp
              try (with_reducible rfl)
            simp only [Act.put, List.setIfInBounds_toArray, List.set_cons_zero, List.set_cons_succ]
            refine wpAnyH_ready (rs := [1]) (by kernel_rfl) (by simp) ?_
            refine AllReadyH.cons rfl (fun K hK => ?_) AllReadyH.nil
            go_simp
            (with_reducible refine (allLinesQ (HAX.out _ HS.out) true rfl).mono ?_)
            rintro e x6 ⟨p0, p1, p2, p4, p5, rfl, hb⟩
            have HB6 : Hid (Below x5.heap.size x5 x6) := Lib.hid (HS.out.trans (hb.mono HS.out.size))
            clear hb
            go_simp
            refine hK.out _ _ ?_ (fun hHeld => ?_)
            · exact HB6.out
            clear hHeld hK K
            try simp only [Act.put, List.setIfInBounds_toArray, List.set_cons_zero, List.set_cons_succ]
            replace HS := HB6
            refine wpAnyH_more (T := fun wx => Below x6.heap.size x6 wx) (fun wx hx => HB6.out.trans (hx.mono HB6.out.size)) _ _ _ _ ?_
            replace HS : Hid (Below x6.heap.size x6 x6) := Lib.hid (Below.refl _ _)
            refine takeD (i := 2) (some 262) (v := ?_) rfl rfl (by kernel_rfl) (by kernel_rfl) (by kernel_rfl) (fun _ _ _ h => h) (by rfl) HS.out ?_ ?_
            rotate_left
            · intro wx hSx
              have hfd := field_seip p0 p1 p2 true p4 p5 wx
              clear hSx
              go_simp
              try (with_reducible rfl)
            simp only [Act.put, List.setIfInBounds_toArray, List.set_cons_zero, List.set_cons_succ]
            refine wpAnyH_ready (rs := [5]) (by kernel_rfl) (by simp) ?_
            refine AllReadyH.cons rfl (fun K hK => ?_) AllReadyH.nil
            go_simp
            (with_reducible refine (allLineQ (HAX.out _ (HB6.out.trans (HS.out.mono HB6.out.size))) (show 0 < 2 by omega) true hl0).mono ?_)
            rintro e wq ⟨rfl, rfl⟩
            go_simp
            refine hK.out _ _ ?_ (fun hHeld => ?_)
            · exact HS.out
            clear hHeld hK K
            try simp only [Act.put, List.setIfInBounds_toArray, List.set_cons_zero, List.set_cons_succ]
            refine takeD (i := 6) (some 266) (v := ?_) rfl rfl (by kernel_rfl) (by kernel_rfl) (by kernel_rfl) (fun _ _ _ h => h) (by rfl) HS.out ?_ ?_
            rotate_left
            · intro wx hSx
              clear hSx
              go_simp
              try (with_reducible rfl)
            simp only [Act.put, List.setIfInBounds_toArray, List.set_cons_zero, List.set_cons_succ]
            refine skipD (i := 7) (some 267) rfl rfl (by kernel_rfl) (by kernel_rfl) (by kernel_rfl) (fun _ _ _ h => h) (by rfl) HS.out ?_
            simp only [Act.put, List.setIfInBounds_toArray, List.set_cons_zero, List.set_cons_succ]
            refine skipD (i := 8) (some 268) rfl rfl (by kernel_rfl) (by kernel_rfl) (by kernel_rfl) (fun _ _ _ h => h) (by rfl) HS.out ?_
            simp only [Act.put, List.setIfInBounds_toArray, List.set_cons_zero, List.set_cons_succ]
            refine skipD (i := 9) (some 269) rfl rfl (by kernel_rfl) (by kernel_rfl) (by kernel_rfl) (fun _ _ _ h => h) (by rfl) HS.out ?_
            simp only [Act.put, List.setIfInBounds_toArray, List.set_cons_zero, List.set_cons_succ]
            refine takeD (i := 10) (some 270) (v := ?_) rfl rfl (by kernel_rfl) (by kernel_rfl) (by kernel_rfl) (fun _ _ _ h => h) (by rfl) HS.out ?_ ?_
            rotate_left
            · intro wx hSx
              clear hSx
              go_simp
              try (with_reducible rfl)
            simp only [Act.put, List.setIfInBounds_toArray, List.set_cons_zero, List.set_cons_succ]
            refine takeD (i := 11) (some 271) (v := ?_) rfl rfl (by kernel_rfl) (by kernel_rfl) (by kernel_rfl) (fun _ _ _ h => h) (by rfl) HS.out ?_ ?_
            rotate_left
            · intro wx hSx
              clear hSx
              go_simp
              try (with_reducible rfl)
            simp only [Act.put, List.setIfInBounds_toArray, List.set_cons_zero, List.set_cons_succ]
            refine wpAnyH_done (by kernel_rfl) ?_ _
            have HF := Lib.hid (HAX.out x6 HB6.out)
            clear HAX HS
            go_wp2
            go_roundg gg
            case measure => omega
            case rel => exact ⟨j + 1, by omega, by go_num, t2, by rw [← idle_is mz cl0 t2 true true hl0 hl1]; exact HF.out⟩
    | zero =>
      obtain rfl : j = xs.length := by omega
      go_wp2
      go_ret
      exact ⟨rfl, HA.out.bel⟩

end Go.Proofs.YtohidopbggcejaaDoor
