/- The law UartSame, walked. -/
import Derived.Test.YtcbjfkbmbjmnbaaDoorUu
import Derived.Test.YtcbjfkbmbjmnbaaDoorUq
namespace Go.Proofs.YtcbjfkbmbjmnbaaDoor
open Go.RowKit
set_option linter.unusedVariables false

set_option maxRecDepth 100000 in
set_option maxHeartbeats 16000000 in
theorem uartSame_walk (l : Value) (xs : List ActV) (m : Value) (ys : List ActV) (w : World) (hl : ActsIn w.heap.size w l xs) (hm : ActsIn w.heap.size w m ys) (ht : Tab w) :
    Calls Tryd.prog 5 #[l, m] w fun e w' => e = .returned (.bool true) ∧ Below w.heap.size w w' := by
  have HL := Lib.hid hl
  have HM := Lib.hid hm
  have HT := Lib.hid ht
  obtain ⟨al, cl, rfl, hll, _⟩ := hl
  obtain ⟨am, cm, rfl, hlm, _⟩ := hm
  have hll2 : xs.length ≤ 9223372036854775807 := by unfold maxLen at hll; omega
  have hlm2 : ys.length ≤ 9223372036854775807 := by unfold maxLen at hlm; omega
  clear hll hlm ht
  by_cases hx60 : 100 < xs.length
  · have hd : decide ((100 : Int) < (xs.length : Int)) = true := by rw [decide_eq_true_eq]; omega
    go_enter Tryd.func5, Tryd.ntmps5
    go_wp2_with fail
    refine (awake_any _ HT.out).mono ?_
    rintro e w1 ⟨rfl, hb⟩
    have HB := Lib.hid hb
    clear hb
    go_wp2
    go_ret
    exact ⟨rfl, HB.out⟩
  have hd : decide ((100 : Int) < (xs.length : Int)) = false := by rw [decide_eq_false_iff_not]; omega
  clear hx60
  by_cases hy60 : 100 < ys.length
  · have hd2 : decide ((100 : Int) < (ys.length : Int)) = true := by rw [decide_eq_true_eq]; omega
    go_enter Tryd.func5, Tryd.ntmps5
    go_wp2_with fail
    refine (awake_any _ HT.out).mono ?_
    rintro e w1 ⟨rfl, hb⟩
    have HB := Lib.hid hb
    clear hb
    go_wp2
    go_ret
    exact ⟨rfl, HB.out⟩
  have hd2 : decide ((100 : Int) < (ys.length : Int)) = false := by rw [decide_eq_false_iff_not]; omega
  clear hy60
  go_enter Tryd.func5, Tryd.ntmps5
  go_wp2_with fail
  refine (awake_any _ HT.out).mono ?_
  rintro e w1 ⟨rfl, hb⟩
  have HB := Lib.hid hb
  clear hb
  go_wp2_with fail
  refine (ownNew w _ HT.out HB.out).mono ?_
  rintro e w2 ⟨a, rfl, F, ho⟩
  have HO := Lib.hid ho
  clear ho
  go_wp2_with fail
  refine (new_any w2).mono ?_
  rintro e w3 ⟨b, Fb, vi, vo, rfl, k2, nb, pb⟩
  have K2 := Lib.hid k2
  have NB := Lib.hid nb
  have PB : Hid (UP w3 b Fb u0) := Lib.hid ⟨vi, vo, pb⟩
  clear k2 nb pb
  go_wp2_with fail
  refine (refNew_any w3).mono ?_
  rintro e w4 ⟨c, Fc, vi, vo, rfl, k3, nc, pc⟩
  have K3 := Lib.hid k3
  have NC := Lib.hid nc
  have PC : Hid (UR w4 c Fc u0) := Lib.hid ⟨vi, vo, pc⟩
  clear k3 nc pc
  go_wp2_with fail
  refine (refNew_any w4).mono ?_
  rintro e w5 ⟨d, Fd, vi, vo, rfl, k4, nd, pd⟩
  have HF := Lib.hid (OwnQ.made HO.out K2.out NB.out PB.out K3.out NC.out PC.out k4 nd ⟨vi, vo, pd⟩)
  clear k4 nd pd HO K2 NB PB K3 NC PC
  go_wp2
  go_loopw [9] (fun i wr => ∃ k : Nat, k ≤ xs.length ∧ i = .int .i64 k ∧ ∃ t, OwnQ w wr a b c d t u0) (fun i _ => xs.length - (intOf i).toNat)
  case atStart => exact ⟨0, Nat.zero_le _, rfl, _, HF.out⟩
  case round =>
    obtain ⟨k, hk, rfl, t, hT⟩ := hrel
    have HQ := Lib.hid hT
    have hbr := hT.bel
    clear hT HF
    by_cases hlt : k < xs.length
    · obtain ⟨_, _, hv, _, hx⟩ := HL.out.below hbr
      injection hv with hv1 hv2 hv3
      subst hv1 hv3
      rcases hx with hx | ⟨bb, off, rfl, hbb, hc⟩
      · rw [hx] at hlt; simp at hlt
      obtain ⟨c0, c1, c2, c3, r0, r1, r2, r3⟩ := act_at (hc k hlt)
      have HBOTH := Lib.hid (HQ.out.both xs[k] r1 r3)
      clear hc hbr hv2 r0 r1 r2 r3
      unfold actVal at HBOTH
      generalize xs[k] = x at *
      obtain ⟨xd, xa, xn, xv⟩ := x
      simp only at c0 c1 c2 c3 HBOTH
      go_wp2_with fail
      (with_reducible refine (HBOTH.out).mono ?_)
      rintro e w7 ⟨rfl, hq⟩
      have HQ2 := Lib.hid hq
      clear hq c0 c1 c2 c3 HBOTH
      go_wp2
      exact ⟨⟨k + 1, by omega, by go_num, _, HQ2.out⟩, by simp [intOf]; omega⟩
    · obtain rfl : k = xs.length := by omega
      clear hbr
      go_wp2
      go_loopw [10] (fun i wq => ∃ k : Nat, k ≤ ys.length ∧ i = .int .i64 k ∧ ∃ u, OwnQ w wq a b c d t u) (fun i _ => ys.length - (intOf i).toNat)
      case atStart => exact ⟨0, Nat.zero_le _, rfl, _, HQ.out⟩
      case round =>
        obtain ⟨k, hk, rfl, u, hT⟩ := hrel
        replace HQ := Lib.hid hT
        have hbr := hT.bel
        clear hT
        by_cases hlt : k < ys.length
        · obtain ⟨_, _, hv, _, hx⟩ := HM.out.below hbr
          injection hv with hv1 hv2 hv3
          subst hv1 hv3
          rcases hx with hx | ⟨bb, off, rfl, hbb, hc⟩
          · rw [hx] at hlt; simp at hlt
          obtain ⟨c0, c1, c2, c3, r0, r1, r2, r3⟩ := act_at (hc k hlt)
          have HBOTH := Lib.hid (HQ.out.both2 ys[k] r1 r3)
          clear hc hbr hv2 r0 r1 r2 r3
          unfold actVal at HBOTH
          generalize ys[k] = x at *
          obtain ⟨xd, xa, xn, xv⟩ := x
          simp only at c0 c1 c2 c3 HBOTH
          go_wp2_with fail
          (with_reducible refine (HBOTH.out).mono ?_)
          rintro e w7 ⟨rfl, hq⟩
          have HQ2 := Lib.hid hq
          clear hq c0 c1 c2 c3 HBOTH
          go_wp2
          exact ⟨⟨k + 1, by omega, by go_num, _, HQ2.out⟩, by simp [intOf]; omega⟩
        · obtain rfl : k = ys.length := by omega
          clear hbr
          obtain ⟨Ga, Gb, Gc, Gd, pa, pb, pc, pd⟩ := HQ.out.parts
          have PA := Lib.hid pa
          have PB := Lib.hid pb
          have PC := Lib.hid pc
          have PD := Lib.hid pd
          have HBL := Lib.hid HQ.out.bel
          clear pa pb pc pd HQ
          rename_i wq _ _ _
          go_wp2_with fail
          (with_reducible refine (same_any _ a b Ga Gb t u PA.out PB.out).mono ?_)
          rintro e w6 ⟨rfl, hb6⟩
          have HB6 := Lib.hid hb6
          clear hb6
          go_wp2_with fail
          (with_reducible refine (refSame_any w6 c d Gc Gd t u (PC.out.below HB6.out) (PD.out.below HB6.out)).mono ?_)
          rintro e w7 ⟨rfl, hb7⟩
          have HB7 := Lib.hid (HB6.out.trans (hb7.mono HB6.out.size))
          clear hb7
          generalize sameU t u = r at *
          go_wp2_with fail
          (with_reducible refine (twin_any w7 a Ga t (PA.out.below HB7.out)).mono ?_)
          rintro e w8 ⟨a2, G2, qi, qo, rfl, hb8, hn8, hp8⟩
          have HB8 := Lib.hid (HB7.out.trans (hb8.mono HB7.out.size))
          have HP8 : Hid (UP w8 a2 G2 t) := Lib.hid ⟨qi, qo, hp8⟩
          clear hb8 hn8 hp8
          go_wp2_with fail
          (with_reducible refine (same_any w8 a a2 Ga G2 t t (PA.out.below HB8.out) HP8.out).mono ?_)
          rintro e w9 ⟨rfl, hb9⟩
          have HB9 := Lib.hid (HB8.out.trans (hb9.mono HB8.out.size))
          have hsr := sameU_refl t
          clear hb9
          go_wp2_with fail
          (with_reducible refine (same_pn w9 a).mono ?_)
          rintro e wq2 ⟨rfl, rfl⟩
          go_wp2_with fail
          (with_reducible refine (same_np w9 b).mono ?_)
          rintro e wq3 ⟨rfl, rfl⟩
          go_wp2
          go_ret
          exact ⟨rfl, HBL.out.trans (HB9.out.mono HBL.out.size)⟩

end Go.Proofs.YtcbjfkbmbjmnbaaDoor
