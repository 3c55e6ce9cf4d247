/- The law ClintSame, walked call by call. -/
import Derived.Test.YtpmlcnhkfnmheaaClFour
namespace Go.Proofs.Ytpmlcnhkfnmheaa
open Go.RowKit
set_option linter.unusedVariables false

set_option maxRecDepth 100000 in
set_option maxHeartbeats 4000000 in
theorem clintSame_walk (l : Value) (xs : List ActV) (m : Value) (ys : List ActV) (w : World) (hl : ActsIn w.heap.size w l xs) (hm : ActsIn w.heap.size w m ys) :
    Calls Try.prog 5 #[l, m] w fun e w' => e = .returned (.bool true) ∧ Below w.heap.size w w' := by
  have HL := Lib.hid hl
  have HM := Lib.hid hm
  obtain ⟨al, cl, rfl, hll, _⟩ := hl
  obtain ⟨am, cm, rfl, hlm, _⟩ := hm
  have hll2 : xs.length ≤ 9223372036854775807 := by unfold maxLen at hll; omega
  have hlm2 : ys.length ≤ 9223372036854775807 := by unfold maxLen at hlm; omega
  clear hll hlm
  by_cases hx60 : 60 < xs.length
  · have hd : decide ((60 : Int) < (xs.length : Int)) = true := by rw [decide_eq_true_eq]; omega
    go_enter Try.func5, Try.ntmps5
    go_wp2_with fail
    refine (awake_any _).mono ?_
    rintro e w1 ⟨rfl, hb⟩
    have HB := Lib.hid hb
    clear hb
    go_wp2
    go_ret
    exact ⟨rfl, HB.out⟩
  have hd : decide ((60 : Int) < (xs.length : Int)) = false := by rw [decide_eq_false_iff_not]; omega
  clear hx60
  by_cases hy60 : 60 < ys.length
  · have hd2 : decide ((60 : Int) < (ys.length : Int)) = true := by rw [decide_eq_true_eq]; omega
    go_enter Try.func5, Try.ntmps5
    go_wp2_with fail
    refine (awake_any _).mono ?_
    rintro e w1 ⟨rfl, hb⟩
    have HB := Lib.hid hb
    clear hb
    go_wp2
    go_ret
    exact ⟨rfl, HB.out⟩
  have hd2 : decide ((60 : Int) < (ys.length : Int)) = false := by rw [decide_eq_false_iff_not]; omega
  clear hy60
  go_enter Try.func5, Try.ntmps5
  go_wp2_with fail
  refine (awake_any _).mono ?_
  rintro e w1 ⟨rfl, hb⟩
  have HB := Lib.hid hb
  clear hb
  go_wp2_with fail
  refine (new_is _).mono ?_
  rintro e w2 ⟨rfl, hb⟩
  have HB2 := Lib.hid (HB.out.trans (hb.mono HB.out.size))
  clear hb HB
  go_wp2_with fail
  have PA := Lib.hid (prog_made w2)
  have HB3 := Lib.hid (HB2.out.alloc HB2.out.size (.cells #[.bool false, .int .u64 18446744073709551615, .int .u64 0] 26))
  have ga := HB2.out.size
  have sa : w2.heap.size < (w2.alloc (.cells #[.bool false, .int .u64 18446744073709551615, .int .u64 0] 26)).heap.size := by rw [World.size_alloc]; omega
  clear HB2
  generalize w2.alloc (.cells #[.bool false, .int .u64 18446744073709551615, .int .u64 0] 26) = w3 at *
  generalize w2.heap.size = a at *
  refine (new_is _).mono ?_
  rintro e w4 ⟨rfl, hb⟩
  have HB4 := Lib.hid (HB3.out.trans (hb.mono HB3.out.size))
  replace PA := Lib.hid (PA.out.below hb)
  have sa4 := Nat.lt_of_lt_of_le sa hb.size
  clear hb HB3 sa
  go_wp2_with fail
  have PB := Lib.hid (prog_made w4)
  replace PA := Lib.hid (PA.out.below ((Below.refl _ _).alloc (Nat.le_refl _) (.cells #[.bool false, .int .u64 18446744073709551615, .int .u64 0] 26)))
  have HB5 := Lib.hid (HB4.out.alloc HB4.out.size (.cells #[.bool false, .int .u64 18446744073709551615, .int .u64 0] 26))
  have gb := HB4.out.size
  have sb : w4.heap.size < (w4.alloc (.cells #[.bool false, .int .u64 18446744073709551615, .int .u64 0] 26)).heap.size := by rw [World.size_alloc]; omega
  clear HB4
  generalize w4.alloc (.cells #[.bool false, .int .u64 18446744073709551615, .int .u64 0] 26) = w5 at *
  generalize w4.heap.size = b at *
  refine (refNew_is _).mono ?_
  rintro e w6 ⟨rfl, hb⟩
  have HB6 := Lib.hid (HB5.out.trans (hb.mono HB5.out.size))
  replace PA := Lib.hid (PA.out.below hb)
  replace PB := Lib.hid (PB.out.below hb)
  have sb6 := Nat.lt_of_lt_of_le sb hb.size
  clear hb HB5 sb
  go_wp2_with fail
  have RC := Lib.hid (ref_made w6)
  replace PA := Lib.hid (PA.out.below ((Below.refl _ _).alloc (Nat.le_refl _) (.cells #[.int .u64 0, .int .u64 18446744073709551615, .int .u64 0] 37)))
  replace PB := Lib.hid (PB.out.below ((Below.refl _ _).alloc (Nat.le_refl _) (.cells #[.int .u64 0, .int .u64 18446744073709551615, .int .u64 0] 37)))
  have HB7 := Lib.hid (HB6.out.alloc HB6.out.size (.cells #[.int .u64 0, .int .u64 18446744073709551615, .int .u64 0] 37))
  have gc := HB6.out.size
  have sc : w6.heap.size < (w6.alloc (.cells #[.int .u64 0, .int .u64 18446744073709551615, .int .u64 0] 37)).heap.size := by rw [World.size_alloc]; omega
  clear HB6
  generalize w6.alloc (.cells #[.int .u64 0, .int .u64 18446744073709551615, .int .u64 0] 37) = w7 at *
  generalize w6.heap.size = c at *
  refine (refNew_is _).mono ?_
  rintro e w8 ⟨rfl, hb⟩
  have HB8 := Lib.hid (HB7.out.trans (hb.mono HB7.out.size))
  replace PA := Lib.hid (PA.out.below hb)
  replace PB := Lib.hid (PB.out.below hb)
  replace RC := Lib.hid (RC.out.below hb)
  have sc8 := Nat.lt_of_lt_of_le sc hb.size
  clear hb HB7 sc
  go_wp2_with fail
  have HF : Hid (Four w (w8.alloc (.cells #[.int .u64 0, .int .u64 18446744073709551615, .int .u64 0] 37)) a b c w8.heap.size t0 t0 t0 t0) := by
    have k := ((Below.refl w8.heap.size w8).alloc (Nat.le_refl _) (.cells #[.int .u64 0, .int .u64 18446744073709551615, .int .u64 0] 37))
    have gd := HB8.out.size
    exact Lib.hid ⟨HB8.out.alloc HB8.out.size _, ga, gb, gc, gd, by omega, by omega, by omega, by omega, by omega, by omega, PA.out.below k, PB.out.below k, RC.out.below k, ref_made w8⟩
  clear PA PB RC HB8 ga gb gc sa4 sb6 sc8
  generalize w8.alloc (.cells #[.int .u64 0, .int .u64 18446744073709551615, .int .u64 0] 37) = w9 at *
  generalize w8.heap.size = d at *
  go_loopw [9] (fun i wr => ∃ k : Nat, k ≤ xs.length ∧ i = .int .i64 k ∧ ∃ t, Four w wr a b c d t t0 t t0) (fun i _ => xs.length - (intOf i).toNat)
  case atStart => exact ⟨0, Nat.zero_le _, rfl, _, HF.out⟩
  case round =>
    obtain ⟨k, hk, rfl, t, hT⟩ := hrel
    have HT := Lib.hid hT
    have hbr := hT.bel
    clear hT HF
    by_cases hlt : k < xs.length
    · obtain ⟨_, _, hv, _, hx⟩ := HL.out.below hbr
      injection hv with hv1 hv2 hv3
      subst hv1 hv3
      rcases hx with hx | ⟨bb, off, rfl, hbb, hc⟩
      · rw [hx] at hlt; simp at hlt
      obtain ⟨c0, c1, c2, c3, r0, r1, r2, r3⟩ := act_at (hc k hlt)
      have R1 := Lib.hid r1
      have R3 := Lib.hid r3
      have R4 : Hid (In64 (xs[k].v % 3)) := by
        refine Lib.hid ?_
        unfold In64 at *; omega
      have hx0 := r3.1
      clear hc hbr hv2 r0 r1 r2 r3
      generalize xs[k] = x at *
      obtain ⟨xd, xa, xn, xv⟩ := x
      simp only at c0 c1 c2 c3 hx0
      have hna : ¬ bb = a := by have := HT.out.ga; omega
      have hnc : ¬ bb = c := by have := HT.out.gc; omega
      go_wp2_with fail
      go_still_tail 15, (by kernel_rfl)
      change wpList _ _ _ _ _ wr.drew
      replace HT := Lib.hid (HT.out.below (Below.refl _ _).drew)
      have d1 : wr.drew.cell? ⟨bb, off + k * 4 + 1, none⟩ = some (.int .u64 xa) := c1
      have d2 : wr.drew.cell? ⟨bb, off + k * 4 + 2, none⟩ = some (.int .i64 xn) := c2
      have d3 : wr.drew.cell? ⟨bb, off + k * 4 + 3, none⟩ = some (.int .u64 xv) := c3
      clear c0 c1 c2 c3
      generalize wr.drew = wd at *
      go_wp2_with fail
      (with_reducible refine (write_any wd a t HT.out.pa xa xn xv R1.out R3.out).mono ?_)
      rintro e w11 ⟨rfl, ho, hp⟩
      replace HT := Lib.hid (HT.out.turnA ho hp)
      have e1 := ho.cell hna d1
      have e2 := ho.cell hna d2
      have e3 := ho.cell hna d3
      clear ho hp d1 d2 d3
      go_wp2_with fail
      go_still_tail 15, (by kernel_rfl)
      change wpList _ _ _ _ _ w11.drew
      replace HT := Lib.hid (HT.out.below (Below.refl _ _).drew)
      have g3 : w11.drew.cell? ⟨bb, off + k * 4 + 3, none⟩ = some (.int .u64 xv) := e3
      clear e1 e2 e3
      generalize w11.drew = w12 at *
      go_wp2_with fail
      (with_reducible refine (refWrite_any w12 c t xa xn xv HT.out.rc R3.out).mono ?_)
      rintro e w13 ⟨rfl, ho, hp⟩
      replace HT := Lib.hid (HT.out.turnC ho hp)
      have h3 := ho.cell hnc g3
      clear ho hp g3
      generalize wrC t xv (kindC xa xn) = t2 at *
      go_wp2_with fail
      (with_reducible refine (tick_any w13 a t2 HT.out.pa _ R4.out).mono ?_)
      rintro e w14 ⟨hu, ho, hp⟩
      obtain ⟨u1, rfl⟩ := hu
      replace HT := Lib.hid (HT.out.turnA ho hp)
      have i3 := ho.cell hna h3
      clear ho hp h3
      go_wp2_with fail
      (with_reducible refine (refTick_any w14 c t2 _ HT.out.rc R4.out).mono ?_)
      rintro e w15 ⟨hu, ho, hp⟩
      obtain ⟨u2, rfl⟩ := hu
      replace HT := Lib.hid (HT.out.turnC ho hp)
      clear ho hp i3
      go_wp2
      exact ⟨⟨k + 1, by omega, by go_num, _, HT.out⟩, by simp [intOf]; omega⟩
    · obtain rfl : k = xs.length := by omega
      clear hbr
      go_wp2_with fail
      go_loopw [10] (fun i wr => ∃ k : Nat, k ≤ ys.length ∧ i = .int .i64 k ∧ ∃ u, Four w wr a b c d t u t u) (fun i _ => ys.length - (intOf i).toNat)
      case atStart => exact ⟨0, Nat.zero_le _, rfl, _, HT.out⟩
      case round =>
        obtain ⟨k, hk, rfl, u, hT⟩ := hrel
        have HT := Lib.hid hT
        have hbr := hT.bel
        clear hT
        by_cases hlt : k < ys.length
        · obtain ⟨_, _, hv, _, hx⟩ := HM.out.below hbr
          injection hv with hv1 hv2 hv3
          subst hv1 hv3
          rcases hx with hx | ⟨bb, off, rfl, hbb, hc⟩
          · rw [hx] at hlt; simp at hlt
          obtain ⟨c0, c1, c2, c3, r0, r1, r2, r3⟩ := act_at (hc k hlt)
          have R1 := Lib.hid r1
          have R3 := Lib.hid r3
          have R4 : Hid (In64 (ys[k].v % 3)) := by
            refine Lib.hid ?_
            unfold In64 at *; omega
          have hx0 := r3.1
          clear hc hbr hv2 r0 r1 r2 r3
          generalize ys[k] = x at *
          obtain ⟨xd, xa, xn, xv⟩ := x
          simp only at c0 c1 c2 c3 hx0
          have hna : ¬ bb = b := by have := HT.out.gb; omega
          have hnc : ¬ bb = d := by have := HT.out.gd; omega
          go_wp2_with fail
          go_still_tail 15, (by kernel_rfl)
          change wpList _ _ _ _ _ wr.drew
          replace HT := Lib.hid (HT.out.below (Below.refl _ _).drew)
          have d1 : wr.drew.cell? ⟨bb, off + k * 4 + 1, none⟩ = some (.int .u64 xa) := c1
          have d2 : wr.drew.cell? ⟨bb, off + k * 4 + 2, none⟩ = some (.int .i64 xn) := c2
          have d3 : wr.drew.cell? ⟨bb, off + k * 4 + 3, none⟩ = some (.int .u64 xv) := c3
          clear c0 c1 c2 c3
          generalize wr.drew = wd at *
          go_wp2_with fail
          (with_reducible refine (write_any wd b u HT.out.pb xa xn xv R1.out R3.out).mono ?_)
          rintro e w11 ⟨rfl, ho, hp⟩
          replace HT := Lib.hid (HT.out.turnB ho hp)
          have e1 := ho.cell hna d1
          have e2 := ho.cell hna d2
          have e3 := ho.cell hna d3
          clear ho hp d1 d2 d3
          go_wp2_with fail
          go_still_tail 15, (by kernel_rfl)
          change wpList _ _ _ _ _ w11.drew
          replace HT := Lib.hid (HT.out.below (Below.refl _ _).drew)
          have g3 : w11.drew.cell? ⟨bb, off + k * 4 + 3, none⟩ = some (.int .u64 xv) := e3
          clear e1 e2 e3
          generalize w11.drew = w12 at *
          go_wp2_with fail
          (with_reducible refine (refWrite_any w12 d u xa xn xv HT.out.rd R3.out).mono ?_)
          rintro e w13 ⟨rfl, ho, hp⟩
          replace HT := Lib.hid (HT.out.turnD ho hp)
          have h3 := ho.cell hnc g3
          clear ho hp g3
          generalize wrC u xv (kindC xa xn) = t2 at *
          go_wp2_with fail
          (with_reducible refine (tick_any w13 b t2 HT.out.pb _ R4.out).mono ?_)
          rintro e w14 ⟨hu, ho, hp⟩
          obtain ⟨u1, rfl⟩ := hu
          replace HT := Lib.hid (HT.out.turnB ho hp)
          have i3 := ho.cell hna h3
          clear ho hp h3
          go_wp2_with fail
          (with_reducible refine (refTick_any w14 d t2 _ HT.out.rd R4.out).mono ?_)
          rintro e w15 ⟨hu, ho, hp⟩
          obtain ⟨u2, rfl⟩ := hu
          replace HT := Lib.hid (HT.out.turnD ho hp)
          clear ho hp i3
          go_wp2
          exact ⟨⟨k + 1, by omega, by go_num, _, HT.out⟩, by simp [intOf]; omega⟩
        · obtain rfl : k = ys.length := by omega
          clear hbr
          obtain ⟨s, c1, n1⟩ := t
          obtain ⟨s', c', n'⟩ := u
          obtain ⟨a0, a1, a2⟩ := HT.out.pa.cells
          obtain ⟨b0, b1, b2⟩ := HT.out.pb.cells
          obtain ⟨d0, d1, d2⟩ := HT.out.rc.cells
          obtain ⟨x0, x1, x2⟩ := HT.out.rd.cells
          simp only at a0 a1 a2 b0 b1 b2 d0 d1 d2 x0 x1 x2
          have HE := Lib.hid HT.out.bel
          by_cases e0 : s = s'
          · by_cases e1 : c1 = c'
            · by_cases e2 : n1 = n'
              · subst e0 e1 e2
                go_wp2_with fail
                go_quiet (fail)
                go_wp2
                go_ret
                exact ⟨rfl, below_drewN HE.out _⟩
              · subst e0 e1
                have f2 : (n1 == n') = false := ne_bool e2
                clear e2
                go_wp2_with fail
                go_quiet (fail)
                go_wp2
                go_ret
                exact ⟨rfl, below_drewN HE.out _⟩
            · subst e0
              have f1 : (c1 == c') = false := ne_bool e1
              clear e1
              go_wp2_with fail
              go_quiet (fail)
              go_wp2
              go_ret
              exact ⟨rfl, below_drewN HE.out _⟩
          · have f0 : (s == s') = false := by simpa using e0
            have f3 : (sI s == sI s') = false := ne_bool (fun h => e0 (sI_inj h))
            clear e0
            go_wp2_with fail
            go_quiet (fail)
            go_wp2
            go_ret
            exact ⟨rfl, below_drewN HE.out _⟩

end Go.Proofs.Ytpmlcnhkfnmheaa
