/- Joined: LawBusApart PlTab UaTab BuTab -/
import Derived.Test.YtbcnkhfpogglmaaGreatDoorKA5
import Derived.Test.YtbcnkhfpogglmaaGreatDoorRows
import Derived.ProofKit
import Derived.LaidMore
import Derived.OpenShut
import Derived.Stop.Joined
import Derived.MakeChecks
namespace Go.Proofs.YtbcnkhfpogglmaaGreatDoor
open Go.RowKit
set_option linter.unusedVariables false
set_option maxRecDepth 100000

set_option maxRecDepth 100000 in
set_option maxHeartbeats 16000000 in
theorem busApart_no (a n v x : Int) (w : World) (ha : In64 a) (hn : In63 n) (hv : In64 v) (hx : In64 x) (ht : Tabs w) (hw : (busWr s0 a n v).1 = false) :
    Calls Tryz.prog 6 #[.int .u64 a, .int .i64 n, .int .u64 v, .int .u64 x] w fun e w' => e = .returned (.bool true) ∧ Below w.heap.size w w' := by
  have HT := Lib.hid ht
  have HA := Lib.hid ha
  have HN := Lib.hid hn
  have HV := Lib.hid hv
  have HX := Lib.hid hx
  obtain ⟨h1, x0, h2⟩ := ap_no ha hw
  have H1 := Lib.hid h1
  have H2 := Lib.hid h2
  have HW := Lib.hid hw
  clear h1 h2 hw
  clear ht ha hn hv hx
  go_enter Tryz.func6, Tryz.ntmps6
  go_wp2_with fail
  refine (awake_any _ HT.out).mono ?_
  rintro e w1 ⟨rfl, hb⟩
  have HB := Lib.hid hb
  clear hb
  go_wp2_with fail
  refine (newB_3 _ (HT.out.below HB.out)).mono ?_
  rintro e w2 ⟨b, g, K, vp, ul, rfl, hb, hp, hk⟩
  have HTW := Lib.hid (DuoB.made (w1 := w) (HB.out.trans (hb.mono HB.out.size)) hp fun i hi => Nat.le_trans HB.out.size (hk i hi))
  clear hb hp hk HB HT
  go_wp2_with fail
  (with_reducible refine HTW.out.mono ?_)
  rintro e w3 ⟨t, rfl, hd⟩
  have HD := Lib.hid hd
  clear hd HTW
  go_wp2_with fail
  (with_reducible refine (HD.out.write a n v HA.out HV.out).mono ?_)
  rintro e w4 ⟨rfl, hd⟩
  rw [HW.out]
  rw [H1.out] at hd
  replace HD := Lib.hid hd
  clear hd
  have HR := Lib.hid (HD.out.swap.read a n HA.out)
  rw [H2.out] at HR
  go_wp2_with fail
  (with_reducible refine HR.out.mono ?_)
  rintro e w5 ⟨rfl, hd⟩
  have HS := Lib.hid hd.swap.same
  clear hd HR HD
  go_wp2_with fail
  (with_reducible refine HS.out.mono ?_)
  rintro e w6 ⟨rfl, hd⟩
  have HB6 := Lib.hid hd.1
  clear hd HS
  go_wp2
  go_ret
  exact ⟨rfl, HB6.out⟩
theorem ram_read {a n v : Int} (ha : In64 a) (hn : M3.okN n = true) (b1 : 2147483648 ≤ a) (b2 : a < 2147491840) (hz : M3.hasZ 2147483648 8192 a n = true) : ∃ X, busRd (memS s0 a n v) a n = (X, true, memS s0 a n v) ∧ M3.readV 2147483648 (memS s0 a n v).size (memS s0 a n v).m a n = (X, true) := by
  have hr : regK 8192 3 a = 0 := by unfold regK; rw [if_pos ⟨b1, by omega⟩]
  have h2 : ∀ m, M3.readV 2147483648 8192 m a n = ((M3.readV 2147483648 8192 m a n).1, true) := fun m => by
    unfold M3.readV; rw [hn, hz]; rfl
  refine ⟨(M3.readV 2147483648 8192 (memS s0 a n v).m a n).1, ?_, h2 _⟩
  unfold busRd
  rw [show (memS s0 a n v).size = 8192 from rfl, show (memS s0 a n v).us.length = 3 from rfl, hr, if_pos ⟨hn, by omega⟩]
  simp only [rdR]
  rw [show offK 3 0 a = a from rfl, show (memS s0 a n v).size = 8192 from rfl, h2]
set_option maxRecDepth 100000 in
set_option maxHeartbeats 16000000 in
theorem busApart_ram (a n v x : Int) (w : World) (ha : In64 a) (hn : In63 n) (hv : In64 v) (hx : In64 x) (ht : Tabs w) (hw : (busWr s0 a n v).1 = true) (hok : M3.okN n = true) (b1 : 2147483648 ≤ a) (b2 : a < 2147491840) (hz : M3.hasZ 2147483648 8192 a n = true) (hm : (busWr s0 a n v).2 = memS s0 a n v) :
    Calls Tryz.prog 6 #[.int .u64 a, .int .i64 n, .int .u64 v, .int .u64 x] w fun e w' => e = .returned (.bool true) ∧ Below w.heap.size w w' := by
  have HT := Lib.hid ht
  have HA := Lib.hid ha
  have HN := Lib.hid hn
  have HV := Lib.hid hv
  have HX := Lib.hid hx
  obtain ⟨X, h1, h2⟩ := ram_read (v := v) ha hok b1 b2 hz
  have HR1 := Lib.hid h1
  have HR2 := Lib.hid h2
  have HW := Lib.hid hw
  have HM := Lib.hid hm
  have HZ : Hid ((M3.okN n && M3.hasZ 2147483648 8192 a n) = true) := Lib.hid (by rw [hok, hz]; rfl)
  have b3 : 33554432 ≤ a := by omega
  have b4 : ¬ a < 33619968 := by omega
  have b5 : 201326592 ≤ a := by omega
  have b6 : ¬ a < 205520896 := by omega
  have b7 : 268435456 ≤ a := by omega
  have b8 : ¬ a < 268443656 := by omega
  clear h1 h2 hw hm hz hok
  clear ht ha hn hv hx
  go_enter Tryz.func6, Tryz.ntmps6
  go_wp2_with fail
  refine (awake_any _ HT.out).mono ?_
  rintro e w1 ⟨rfl, hb⟩
  have HB := Lib.hid hb
  clear hb
  go_wp2_with fail
  refine (newB_3 _ (HT.out.below HB.out)).mono ?_
  rintro e w2 ⟨b, g, K, vp, ul, rfl, hb, hp, hk⟩
  have HTW := Lib.hid (DuoB.made (w1 := w) (HB.out.trans (hb.mono HB.out.size)) hp fun i hi => Nat.le_trans HB.out.size (hk i hi))
  clear hb hp hk HB HT
  go_wp2_with fail
  (with_reducible refine HTW.out.mono ?_)
  rintro e w3 ⟨t, rfl, hd⟩
  have HD := Lib.hid hd
  clear hd HTW
  go_wp2_with fail
  (with_reducible refine (HD.out.write a n v HA.out HV.out).mono ?_)
  rintro e w4 ⟨rfl, hd⟩
  rw [HW.out]
  rw [HM.out] at hd
  replace HD := Lib.hid hd
  clear hd
  have HI := Lib.hid (HD.out.isRam a n HA.out)
  rw [show (memS s0 a n v).size = 8192 from rfl, HZ.out] at HI
  go_wp2_with fail
  (with_reducible refine HI.out.mono ?_)
  rintro e w5 ⟨rfl, hd⟩
  replace HD := Lib.hid hd
  clear hd HI
  obtain ⟨g1, hr, hrd, _, _⟩ := HD.out.ram
  have HRM := Lib.hid hr
  have HRD := Lib.hid (hrd a n HA.out HN.out)
  rw [HR2.out] at HRD
  clear hr hrd
  go_wp2_with fail
  (with_reducible refine HRM.out.mono ?_)
  rintro e w6 ⟨rfl, rfl⟩
  go_wp2_with fail
  (with_reducible refine HRD.out.mono ?_)
  rintro e w6 ⟨rfl, hd⟩
  replace HD := Lib.hid hd
  clear hd HRM HRD
  have HBR := Lib.hid (HD.out.read a n HA.out)
  rw [HR1.out] at HBR
  go_wp2_with fail
  (with_reducible refine HBR.out.mono ?_)
  rintro e w7 ⟨rfl, hd⟩
  replace HD := Lib.hid hd.swap
  clear hd HBR
  obtain ⟨g2, hr, _, hwr, _⟩ := HD.out.ram
  have HRM := Lib.hid hr
  have HWR := Lib.hid (hwr a n v HA.out HN.out HV.out)
  clear hr hwr
  go_wp2_with fail
  (with_reducible refine HRM.out.mono ?_)
  rintro e w8 ⟨rfl, rfl⟩
  go_wp2_with fail
  (with_reducible refine HWR.out.mono ?_)
  rintro e w8 ⟨rfl, hd⟩
  have HS := Lib.hid hd.swap.same
  clear hd HRM HWR HD
  go_wp2_with fail
  (with_reducible refine HS.out.mono ?_)
  rintro e w9 ⟨rfl, hd⟩
  have HB6 := Lib.hid hd.1
  clear hd HS
  go_wp2
  go_ret
  exact ⟨rfl, HB6.out⟩
set_option maxRecDepth 100000 in
set_option maxHeartbeats 16000000 in
theorem busApart_cl (a n v x : Int) (w : World) (ha : In64 a) (hn : In63 n) (hv : In64 v) (hx : In64 x) (ht : Tabs w) (hw : (busWr s0 a n v).1 = true) (hok : M3.okN n = true) (c1 : 33554432 ≤ a) (c2 : a < 33619968) (hdv : DevS a true false false (busWr s0 a n v).2) :
    Calls Tryz.prog 6 #[.int .u64 a, .int .i64 n, .int .u64 v, .int .u64 x] w fun e w' => e = .returned (.bool true) ∧ Below w.heap.size w w' := by
  have HT := Lib.hid ht
  have HA := Lib.hid ha
  have HN := Lib.hid hn
  have HV := Lib.hid hv
  have HX := Lib.hid hx
  obtain ⟨st, hst⟩ : ∃ st, st = (busWr s0 a n v).2 := ⟨_, rfl⟩
  rw [← hst] at hdv
  have HST := Lib.hid hst
  have HDV := Lib.hid hdv
  have HW := Lib.hid hw
  have HNR := Lib.hid (notRam (a := a) hok (by omega))
  have b1 : ¬ 2147483648 ≤ a := by omega
  have b3 : 33554432 ≤ a := by omega
  have b4 : a < 33619968 := by omega
  have b5 : ¬ 201326592 ≤ a := by omega
  have b7 : ¬ 268435456 ≤ a := by omega
  clear hst hdv hw hok c1 c2
  clear ht ha hn hv hx
  go_enter Tryz.func6, Tryz.ntmps6
  go_wp2_with fail
  refine (awake_any _ HT.out).mono ?_
  rintro e w1 ⟨rfl, hb⟩
  have HB := Lib.hid hb
  clear hb
  go_wp2_with fail
  refine (newB_3 _ (HT.out.below HB.out)).mono ?_
  rintro e w2 ⟨b, g, K, vp, ul, rfl, hb, hp, hk⟩
  have HTW := Lib.hid (DuoB.made (w1 := w) (HB.out.trans (hb.mono HB.out.size)) hp fun i hi => Nat.le_trans HB.out.size (hk i hi))
  clear hb hp hk HB HT
  go_wp2_with fail
  (with_reducible refine HTW.out.mono ?_)
  rintro e w3 ⟨t, rfl, hd⟩
  have HD := Lib.hid hd
  clear hd HTW
  go_wp2_with fail
  (with_reducible refine (HD.out.write a n v HA.out HV.out).mono ?_)
  rintro e w4 ⟨rfl, hd⟩
  rw [HW.out]
  rw [← HST.out] at hd
  replace HD := Lib.hid hd
  clear hd HST
  have HI := Lib.hid (HD.out.isRam a n HA.out)
  rw [HDV.out.size, HNR.out] at HI
  go_wp2_with fail
  (with_reducible refine HI.out.mono ?_)
  rintro e w5 ⟨rfl, hd⟩
  replace HD := Lib.hid hd
  clear hd HI HNR
  obtain ⟨g1, hr, _, _, hpg⟩ := HD.out.ram
  have HRM := Lib.hid hr
  have HPG := Lib.hid (hpg HDV.out.m (by rw [HDV.out.size]; omega))
  clear hr hpg
  go_wp2_with fail
  (with_reducible refine HRM.out.mono ?_)
  rintro e w6 ⟨rfl, rfl⟩
  go_wp2_with fail
  (with_reducible refine HPG.out.mono ?_)
  rintro e w6 ⟨⟨ap, cp, rfl⟩, hd⟩
  replace HD := Lib.hid hd
  clear hd HRM HPG
  obtain ⟨p0, p1, p3, p4, p1', hl1, hl2⟩ := lines_is st x
  obtain ⟨q0, q1, q3, q4, q5, hl0⟩ := lines_s0
  have HL1 := Lib.hid hl1
  have HL2 := Lib.hid hl2
  have HL0 := Lib.hid hl0
  clear hl0 hl1 hl2
  rw [HDV.out.line rfl] at HL1 HL2
  obtain ⟨tm, htm⟩ : ∃ tm, tm = st.c.n := ⟨_, rfl⟩
  rw [← htm] at HL1 HL2
  clear htm
  have fb2 := fun wx => field_m2 p0 p1 false p3 p4 tm wx
  have fb5 := fun wx => field_m5 p0 p1 false p3 p4 tm wx
  have ft2 := fun wx => field_m2 q0 q1 false q3 q4 q5 wx
  have HL := Lib.hid HD.out.lines
  rw [HL1.out] at HL
  go_wp2_with fail
  (with_reducible refine HL.out.mono ?_)
  rintro e w6 ⟨rfl, hd⟩
  replace HD := Lib.hid hd
  clear hd HL
  have HL := Lib.hid HD.out.swap.lines
  rw [HL0.out] at HL
  go_wp2_with fail
  (with_reducible refine HL.out.mono ?_)
  rintro e w6 ⟨rfl, hd⟩
  replace HD := Lib.hid hd.swap
  clear hd HL
  have HOU : Hid (∀ k : Nat, k < 3 → (busOt st.us (k : Int)).length = 0) := Lib.hid fun k hk => by
    have := HDV.out.outs k hk
    rw [Bool.false_and, decide_eq_false_iff_not] at this
    omega
  clear HDV
  go_wp2
  go_loopw [23] (fun i wr => ∃ k : Nat, k ≤ 3 ∧ i = .int .i64 k ∧ DuoB w wr b t st s0) (fun i _ => 3 - (intOf i).toNat)
  case atStart => exact ⟨0, Nat.zero_le _, rfl, HD.out⟩
  case round =>
    obtain ⟨k, hk, rfl, hq⟩ := hrel
    have HQ := Lib.hid hq
    clear hq
    by_cases hlt : k < 3
    · have HOT := Lib.hid (HQ.out.out (k : Int))
      have hou := HOU.out k hlt
      rw [hou] at HOT
      clear hou
      go_wp2_with fail
      (with_reducible refine HOT.out.mono ?_)
      rintro e w7 ⟨⟨ao, co, rfl⟩, hd⟩
      replace HQ := Lib.hid hd
      clear hd HOT
      go_wp2
      go_roundw
      case rel => exact ⟨k + 1, by omega, by go_num, HQ.out⟩
      case measure => simp [intOf]; omega
    · have hk3 : k = 3 := by omega
      subst hk3
      clear hlt hk HOU
      have HLA := Lib.hid HQ.out.lines
      rw [HL1.out] at HLA
      go_wp2_with fail
      (with_reducible refine HLA.out.mono ?_)
      rintro e w8 ⟨rfl, hd⟩
      replace HQ := Lib.hid hd
      clear hd HLA
      have HTK := Lib.hid (HQ.out.tickBox x HX.out p0 p1 false p3 p4 tm)
      go_wp2_with fail
      (with_reducible refine HTK.out.mono ?_)
      rintro e w9 ⟨⟨u9, rfl⟩, hd, hbx⟩
      generalize w8.heap.size = o at *
      replace HQ := Lib.hid hd
      have HBX := Lib.hid hbx
      clear hd hbx HTK
      have HLB := Lib.hid HQ.out.linesB
      rw [HL2.out] at HLB
      go_wp2_with fail
      (with_reducible refine HLB.out.mono ?_)
      rintro e w10 ⟨rfl, hb10⟩
      have HB10 := Lib.hid (HQ.out.1.trans (hb10.mono HQ.out.1.size))
      have HX1 := Lib.hid ((HBX.out.below hb10).below ((Below.refl _ _).alloc (Nat.le_refl _) (.cells #[.bool p0, .bool p1', .bool false, .bool p3, .int .u64 p4, .int .u64 ((tm + x) % 18446744073709551616)] 33)))
      have HX2 := Lib.hid (BoxL.new w10 p0 p1' false p3 p4 ((tm + x) % 18446744073709551616))
      obtain ⟨c0, c2, c3, c4, c5⟩ := HX1.out.cells
      obtain ⟨d0, d2, d3, d4, d5⟩ := HX2.out.cells
      have hwx : IntKind.u64.wrap (tm + x) = (tm + x) % 18446744073709551616 := by rw [IntKind.wrap_u64]
      clear hb10 HLB HBX HX1 HX2 HQ
      generalize w10.heap.size = o2 at *
      go_wp2
      go_ret
      exact ⟨rfl, HB10.out.alloc HB10.out.size _⟩
set_option maxRecDepth 100000 in
set_option maxHeartbeats 16000000 in
theorem busApart_pl (a n v x : Int) (w : World) (ha : In64 a) (hn : In63 n) (hv : In64 v) (hx : In64 x) (ht : Tabs w) (hw : (busWr s0 a n v).1 = true) (hok : M3.okN n = true) (c1 : 201326592 ≤ a) (c2 : a < 205520896) (hdv : DevS a false true false (busWr s0 a n v).2) :
    Calls Tryz.prog 6 #[.int .u64 a, .int .i64 n, .int .u64 v, .int .u64 x] w fun e w' => e = .returned (.bool true) ∧ Below w.heap.size w w' := by
  have HT := Lib.hid ht
  have HA := Lib.hid ha
  have HN := Lib.hid hn
  have HV := Lib.hid hv
  have HX := Lib.hid hx
  obtain ⟨st, hst⟩ : ∃ st, st = (busWr s0 a n v).2 := ⟨_, rfl⟩
  rw [← hst] at hdv
  have HST := Lib.hid hst
  have HDV := Lib.hid hdv
  have HW := Lib.hid hw
  have HNR := Lib.hid (notRam (a := a) hok (by omega))
  have b1 : ¬ 2147483648 ≤ a := by omega
  have b3 : 33554432 ≤ a := by omega
  have b4 : ¬ a < 33619968 := by omega
  have b5 : 201326592 ≤ a := by omega
  have b6 : a < 205520896 := by omega
  have b7 : ¬ 268435456 ≤ a := by omega
  clear hst hdv hw hok c1 c2
  clear ht ha hn hv hx
  go_enter Tryz.func6, Tryz.ntmps6
  go_wp2_with fail
  refine (awake_any _ HT.out).mono ?_
  rintro e w1 ⟨rfl, hb⟩
  have HB := Lib.hid hb
  clear hb
  go_wp2_with fail
  refine (newB_3 _ (HT.out.below HB.out)).mono ?_
  rintro e w2 ⟨b, g, K, vp, ul, rfl, hb, hp, hk⟩
  have HTW := Lib.hid (DuoB.made (w1 := w) (HB.out.trans (hb.mono HB.out.size)) hp fun i hi => Nat.le_trans HB.out.size (hk i hi))
  clear hb hp hk HB HT
  go_wp2_with fail
  (with_reducible refine HTW.out.mono ?_)
  rintro e w3 ⟨t, rfl, hd⟩
  have HD := Lib.hid hd
  clear hd HTW
  go_wp2_with fail
  (with_reducible refine (HD.out.write a n v HA.out HV.out).mono ?_)
  rintro e w4 ⟨rfl, hd⟩
  rw [HW.out]
  rw [← HST.out] at hd
  replace HD := Lib.hid hd
  clear hd HST
  have HI := Lib.hid (HD.out.isRam a n HA.out)
  rw [HDV.out.size, HNR.out] at HI
  go_wp2_with fail
  (with_reducible refine HI.out.mono ?_)
  rintro e w5 ⟨rfl, hd⟩
  replace HD := Lib.hid hd
  clear hd HI HNR
  obtain ⟨g1, hr, _, _, hpg⟩ := HD.out.ram
  have HRM := Lib.hid hr
  have HPG := Lib.hid (hpg HDV.out.m (by rw [HDV.out.size]; omega))
  clear hr hpg
  go_wp2_with fail
  (with_reducible refine HRM.out.mono ?_)
  rintro e w6 ⟨rfl, rfl⟩
  go_wp2_with fail
  (with_reducible refine HPG.out.mono ?_)
  rintro e w6 ⟨⟨ap, cp, rfl⟩, hd⟩
  replace HD := Lib.hid hd
  clear hd HRM HPG
  obtain ⟨p0, p1, p3, p4, p1', hl1, hl2⟩ := lines_is st x
  obtain ⟨q0, q1, q3, q4, q5, hl0⟩ := lines_s0
  have HL1 := Lib.hid hl1
  have HL2 := Lib.hid hl2
  have HL0 := Lib.hid hl0
  clear hl0 hl1 hl2
  rw [HDV.out.time rfl] at HL1 HL2
  rw [show (0 + x) % 18446744073709551616 = x by have := HX.out; unfold In64 at this; omega] at HL2
  obtain ⟨mp, hmp⟩ : ∃ mp, mp = P5.lineT st.p 0 := ⟨_, rfl⟩
  rw [← hmp] at HL1 HL2
  clear hmp
  have fb2 := fun wx => field_m2 p0 p1 mp p3 p4 0 wx
  have fb5 := fun wx => field_m5 p0 p1 mp p3 p4 0 wx
  have ft2 := fun wx => field_m2 q0 q1 false q3 q4 q5 wx
  have HL := Lib.hid HD.out.lines
  rw [HL1.out] at HL
  go_wp2_with fail
  (with_reducible refine HL.out.mono ?_)
  rintro e w6 ⟨rfl, hd⟩
  replace HD := Lib.hid hd
  clear hd HL
  have HOU : Hid (∀ k : Nat, k < 3 → (busOt st.us (k : Int)).length = 0) := Lib.hid fun k hk => by
    have := HDV.out.outs k hk
    rw [Bool.false_and, decide_eq_false_iff_not] at this
    omega
  clear HDV
  go_wp2
  go_loopw [23] (fun i wr => ∃ k : Nat, k ≤ 3 ∧ i = .int .i64 k ∧ DuoB w wr b t st s0) (fun i _ => 3 - (intOf i).toNat)
  case atStart => exact ⟨0, Nat.zero_le _, rfl, HD.out⟩
  case round =>
    obtain ⟨k, hk, rfl, hq⟩ := hrel
    have HQ := Lib.hid hq
    clear hq
    by_cases hlt : k < 3
    · have HOT := Lib.hid (HQ.out.out (k : Int))
      have hou := HOU.out k hlt
      rw [hou] at HOT
      clear hou
      go_wp2_with fail
      (with_reducible refine HOT.out.mono ?_)
      rintro e w7 ⟨⟨ao, co, rfl⟩, hd⟩
      replace HQ := Lib.hid hd
      clear hd HOT
      go_wp2
      go_roundw
      case rel => exact ⟨k + 1, by omega, by go_num, HQ.out⟩
      case measure => simp [intOf]; omega
    · have hk3 : k = 3 := by omega
      subst hk3
      clear hlt hk HOU
      have HLA := Lib.hid HQ.out.lines
      rw [HL1.out] at HLA
      go_wp2_with fail
      (with_reducible refine HLA.out.mono ?_)
      rintro e w8 ⟨rfl, hd⟩
      replace HQ := Lib.hid hd
      clear hd HLA
      have HTK := Lib.hid (HQ.out.tickBox x HX.out p0 p1 mp p3 p4 0)
      go_wp2_with fail
      (with_reducible refine HTK.out.mono ?_)
      rintro e w9 ⟨⟨u9, rfl⟩, hd, hbx⟩
      generalize w8.heap.size = o at *
      replace HQ := Lib.hid hd
      have HBX := Lib.hid hbx
      clear hd hbx HTK
      have HLB := Lib.hid HQ.out.linesB
      rw [HL2.out] at HLB
      go_wp2_with fail
      (with_reducible refine HLB.out.mono ?_)
      rintro e w10 ⟨rfl, hb10⟩
      have HB10 := Lib.hid (HQ.out.1.trans (hb10.mono HQ.out.1.size))
      have HX1 := Lib.hid ((HBX.out.below hb10).below ((Below.refl _ _).alloc (Nat.le_refl _) (.cells #[.bool p0, .bool p1', .bool mp, .bool p3, .int .u64 p4, .int .u64 x] 33)))
      have HX2 := Lib.hid (BoxL.new w10 p0 p1' mp p3 p4 x)
      obtain ⟨c0, c2, c3, c4, c5⟩ := HX1.out.cells
      obtain ⟨d0, d2, d3, d4, d5⟩ := HX2.out.cells
      have hwx : IntKind.u64.wrap x = x := by rw [IntKind.wrap_u64]; have := HX.out; unfold In64 at this; omega
      clear hb10 HLB HBX HX1 HX2 HQ
      generalize w10.heap.size = o2 at *
      go_wp2
      go_ret
      exact ⟨rfl, HB10.out.alloc HB10.out.size _⟩
set_option maxRecDepth 100000 in
set_option maxHeartbeats 16000000 in
theorem busApart_se (a n v x : Int) (w : World) (ha : In64 a) (hn : In63 n) (hv : In64 v) (hx : In64 x) (ht : Tabs w) (hw : (busWr s0 a n v).1 = true) (hok : M3.okN n = true) (c1 : 268435456 ≤ a) (c2 : a < 268443656) (b9 : a % 4096 < 8) (hdv : DevS a false false true (busWr s0 a n v).2) :
    Calls Tryz.prog 6 #[.int .u64 a, .int .i64 n, .int .u64 v, .int .u64 x] w fun e w' => e = .returned (.bool true) ∧ Below w.heap.size w w' := by
  have HT := Lib.hid ht
  have HA := Lib.hid ha
  have HN := Lib.hid hn
  have HV := Lib.hid hv
  have HX := Lib.hid hx
  obtain ⟨st, hst⟩ : ∃ st, st = (busWr s0 a n v).2 := ⟨_, rfl⟩
  rw [← hst] at hdv
  have HST := Lib.hid hst
  have HDV := Lib.hid hdv
  have HW := Lib.hid hw
  have HNR := Lib.hid (notRam (a := a) hok (by omega))
  have b1 : ¬ 2147483648 ≤ a := by omega
  have b3 : 33554432 ≤ a := by omega
  have b4 : ¬ a < 33619968 := by omega
  have b5 : 201326592 ≤ a := by omega
  have b6 : ¬ a < 205520896 := by omega
  have b7 : 268435456 ≤ a := by omega
  have b8 : a < 268443656 := by omega
  clear hst hdv hw hok c1 c2
  clear ht ha hn hv hx
  go_enter Tryz.func6, Tryz.ntmps6
  go_wp2_with fail
  refine (awake_any _ HT.out).mono ?_
  rintro e w1 ⟨rfl, hb⟩
  have HB := Lib.hid hb
  clear hb
  go_wp2_with fail
  refine (newB_3 _ (HT.out.below HB.out)).mono ?_
  rintro e w2 ⟨b, g, K, vp, ul, rfl, hb, hp, hk⟩
  have HTW := Lib.hid (DuoB.made (w1 := w) (HB.out.trans (hb.mono HB.out.size)) hp fun i hi => Nat.le_trans HB.out.size (hk i hi))
  clear hb hp hk HB HT
  go_wp2_with fail
  (with_reducible refine HTW.out.mono ?_)
  rintro e w3 ⟨t, rfl, hd⟩
  have HD := Lib.hid hd
  clear hd HTW
  go_wp2_with fail
  (with_reducible refine (HD.out.write a n v HA.out HV.out).mono ?_)
  rintro e w4 ⟨rfl, hd⟩
  rw [HW.out]
  rw [← HST.out] at hd
  replace HD := Lib.hid hd
  clear hd HST
  have HI := Lib.hid (HD.out.isRam a n HA.out)
  rw [HDV.out.size, HNR.out] at HI
  go_wp2_with fail
  (with_reducible refine HI.out.mono ?_)
  rintro e w5 ⟨rfl, hd⟩
  replace HD := Lib.hid hd
  clear hd HI HNR
  obtain ⟨g1, hr, _, _, hpg⟩ := HD.out.ram
  have HRM := Lib.hid hr
  have HPG := Lib.hid (hpg HDV.out.m (by rw [HDV.out.size]; omega))
  clear hr hpg
  go_wp2_with fail
  (with_reducible refine HRM.out.mono ?_)
  rintro e w6 ⟨rfl, rfl⟩
  go_wp2_with fail
  (with_reducible refine HPG.out.mono ?_)
  rintro e w6 ⟨⟨ap, cp, rfl⟩, hd⟩
  replace HD := Lib.hid hd
  clear hd HRM HPG
  obtain ⟨p0, p1, p3, p4, p1', hl1, hl2⟩ := lines_is st x
  obtain ⟨q0, q1, q3, q4, q5, hl0⟩ := lines_s0
  have HL1 := Lib.hid hl1
  have HL2 := Lib.hid hl2
  have HL0 := Lib.hid hl0
  clear hl0 hl1 hl2
  rw [HDV.out.line rfl] at HL1 HL2
  rw [HDV.out.time rfl] at HL1 HL2
  rw [show (0 + x) % 18446744073709551616 = x by have := HX.out; unfold In64 at this; omega] at HL2
  have fb2 := fun wx => field_m2 p0 p1 false p3 p4 0 wx
  have fb5 := fun wx => field_m5 p0 p1 false p3 p4 0 wx
  have ft2 := fun wx => field_m2 q0 q1 false q3 q4 q5 wx
  have HL := Lib.hid HD.out.lines
  rw [HL1.out] at HL
  go_wp2_with fail
  (with_reducible refine HL.out.mono ?_)
  rintro e w6 ⟨rfl, hd⟩
  replace HD := Lib.hid hd
  clear hd HL
  have HL := Lib.hid HD.out.swap.lines
  rw [HL0.out] at HL
  go_wp2_with fail
  (with_reducible refine HL.out.mono ?_)
  rintro e w6 ⟨rfl, hd⟩
  replace HD := Lib.hid hd.swap
  clear hd HL
  have HL := Lib.hid HD.out.lines
  rw [HL1.out] at HL
  go_wp2_with fail
  (with_reducible refine HL.out.mono ?_)
  rintro e w6 ⟨rfl, hd⟩
  replace HD := Lib.hid hd
  clear hd HL
  have HOU : Hid (∀ k : Nat, k < 3 → (decide (0 < ((busOt st.us (k : Int)).length : Int)) = decide (a = 268435456 + 4096 * (k : Int)))) := Lib.hid fun k hk => by
    have := HDV.out.outs k hk
    rwa [Bool.true_and] at this
  clear HDV
  go_wp2
  go_loopw [23] (fun i wr => ∃ k : Nat, k ≤ 3 ∧ i = .int .i64 k ∧ DuoB w wr b t st s0) (fun i _ => 3 - (intOf i).toNat)
  case atStart => exact ⟨0, Nat.zero_le _, rfl, HD.out⟩
  case round =>
    obtain ⟨k, hk, rfl, hq⟩ := hrel
    have HQ := Lib.hid hq
    clear hq
    by_cases hlt : k < 3
    · have HOT := Lib.hid (HQ.out.out (k : Int))
      have hou := HOU.out k hlt
      generalize (busOt st.us (k : Int)).length = L at *
      have HLL := Lib.hid hou
      clear hou
      have h3 : k = 0 ∨ k = 1 ∨ k = 2 := by omega
      by_cases hac : a = 268435456 + 4096 * (k : Int)
      · have hL : 0 < (L : Int) := by
          have := HLL.out
          rw [decide_eq_true hac, decide_eq_true_eq] at this
          exact this
        have hL1 : 0 < L := by omega
        have hL2 : decide (0 < (L : Int)) = true := decide_eq_true hL
        have hL3 : decide (0 < L) = true := decide_eq_true hL1
        have hL4 : ¬ L = 0 := by omega
        go_wp2_with fail
        (with_reducible refine HOT.out.mono ?_)
        rintro e w7 ⟨⟨ao, co, rfl⟩, hd⟩
        replace HQ := Lib.hid hd
        clear hd HOT
        rcases h3 with rfl | rfl | rfl
        · have hq :  a = 268435456 := by omega
          have hq1 : (a == 268435456) = true := by simp [hq]
          have hq2 : decide (a = 268435456) = true := by simp [hq]
          clear hac hq
          go_wp2
          go_roundw
          case rel => exact ⟨1, by omega, by go_num, HQ.out⟩
          case measure => simp [intOf]
        · have hq :  a = 268439552 := by omega
          have hq1 : (a == 268439552) = true := by simp [hq]
          have hq2 : decide (a = 268439552) = true := by simp [hq]
          clear hac hq
          go_wp2
          go_roundw
          case rel => exact ⟨2, by omega, by go_num, HQ.out⟩
          case measure => simp [intOf]
        · have hq :  a = 268443648 := by omega
          have hq1 : (a == 268443648) = true := by simp [hq]
          have hq2 : decide (a = 268443648) = true := by simp [hq]
          clear hac hq
          go_wp2
          go_roundw
          case rel => exact ⟨3, by omega, by go_num, HQ.out⟩
          case measure => simp [intOf]
      · have hL : ¬ 0 < (L : Int) := by
          have := HLL.out
          rw [decide_eq_false hac, decide_eq_false_iff_not] at this
          exact this
        go_wp2_with fail
        (with_reducible refine HOT.out.mono ?_)
        rintro e w7 ⟨⟨ao, co, rfl⟩, hd⟩
        replace HQ := Lib.hid hd
        clear hd HOT
        rcases h3 with rfl | rfl | rfl
        · have hq : ¬ a = 268435456 := by omega
          have hq1 : (a == 268435456) = false := by simp [hq]
          have hq2 : decide (a = 268435456) = false := by simp [hq]
          clear hac
          go_wp2
          go_roundw
          case rel => exact ⟨1, by omega, by go_num, HQ.out⟩
          case measure => simp [intOf]
        · have hq : ¬ a = 268439552 := by omega
          have hq1 : (a == 268439552) = false := by simp [hq]
          have hq2 : decide (a = 268439552) = false := by simp [hq]
          clear hac
          go_wp2
          go_roundw
          case rel => exact ⟨2, by omega, by go_num, HQ.out⟩
          case measure => simp [intOf]
        · have hq : ¬ a = 268443648 := by omega
          have hq1 : (a == 268443648) = false := by simp [hq]
          have hq2 : decide (a = 268443648) = false := by simp [hq]
          clear hac
          go_wp2
          go_roundw
          case rel => exact ⟨3, by omega, by go_num, HQ.out⟩
          case measure => simp [intOf]
    · have hk3 : k = 3 := by omega
      subst hk3
      clear hlt hk HOU
      have HLA := Lib.hid HQ.out.lines
      rw [HL1.out] at HLA
      go_wp2_with fail
      (with_reducible refine HLA.out.mono ?_)
      rintro e w8 ⟨rfl, hd⟩
      replace HQ := Lib.hid hd
      clear hd HLA
      have HTK := Lib.hid (HQ.out.tickBox x HX.out p0 p1 false p3 p4 0)
      go_wp2_with fail
      (with_reducible refine HTK.out.mono ?_)
      rintro e w9 ⟨⟨u9, rfl⟩, hd, hbx⟩
      generalize w8.heap.size = o at *
      replace HQ := Lib.hid hd
      have HBX := Lib.hid hbx
      clear hd hbx HTK
      have HLB := Lib.hid HQ.out.linesB
      rw [HL2.out] at HLB
      go_wp2_with fail
      (with_reducible refine HLB.out.mono ?_)
      rintro e w10 ⟨rfl, hb10⟩
      have HB10 := Lib.hid (HQ.out.1.trans (hb10.mono HQ.out.1.size))
      have HX1 := Lib.hid ((HBX.out.below hb10).below ((Below.refl _ _).alloc (Nat.le_refl _) (.cells #[.bool p0, .bool p1', .bool false, .bool p3, .int .u64 p4, .int .u64 x] 33)))
      have HX2 := Lib.hid (BoxL.new w10 p0 p1' false p3 p4 x)
      obtain ⟨c0, c2, c3, c4, c5⟩ := HX1.out.cells
      obtain ⟨d0, d2, d3, d4, d5⟩ := HX2.out.cells
      have hwx : IntKind.u64.wrap x = x := by rw [IntKind.wrap_u64]; have := HX.out; unfold In64 at this; omega
      clear hb10 HLB HBX HX1 HX2 HQ
      generalize w10.heap.size = o2 at *
      go_wp2
      go_ret
      exact ⟨rfl, HB10.out.alloc HB10.out.size _⟩

set_option maxRecDepth 100000 in
set_option maxHeartbeats 16000000 in
theorem busApart_walk (a n v x : Int) (w : World) (ha : In64 a) (hn : In63 n) (hv : In64 v) (hx : In64 x) (ht : Tabs w)  :
    Calls Tryz.prog 6 #[.int .u64 a, .int .i64 n, .int .u64 v, .int .u64 x] w fun e w' => e = .returned (.bool true) ∧ Below w.heap.size w w' := by
  cases hw : (busWr s0 a n v).1 with
  | false => exact busApart_no a n v x w ha hn hv hx ht hw
  | true =>
    obtain ⟨hok, h⟩ := ap_yes ha hw
    rcases h with ⟨h1, h2, h3, h4⟩ | ⟨h1, h2, h3⟩ | ⟨h1, h2, h3⟩ | ⟨h1, h2, h3, h4⟩
    · exact busApart_ram a n v x w ha hn hv hx ht hw hok h1 h2 h3 h4
    · exact busApart_cl a n v x w ha hn hv hx ht hw hok h1 h2 h3
    · exact busApart_pl a n v x w ha hn hv hx ht hw hok h1 h2 h3
    · exact busApart_se a n v x w ha hn hv hx ht hw hok h1 h2 h3 h4

end Go.Proofs.YtbcnkhfpogglmaaGreatDoor

namespace Go.Proofs.YtbcnkhfpogglmaaGreatDoor.P5
open Go.ChangeShapes Go.WideShapes Go.ChangeAt Go.RowKit
set_option linter.unusedVariables false
set_option maxRecDepth 100000

/-- The one listed variable. -/
abbrev laidT : List (String × DataW Unit) := [("mezzanine/plic.groups", Rows.laid_mezzanine_plic_groups)]
theorem gGroups : Tryz.prog.globalNamed "mezzanine/plic.groups" = some 0 := by kernel_rfl
theorem tGroups : (Tryz.prog.globals[0]?).map (·.type) = some 181 := by kernel_rfl
section
variable {H : Type} {enc : TypeId × Value → H} {w : World} {base : Nat} {spare : Nat → Bool} {held : Bool}
/-- A row of the table, read as its four numbers, has these cells. -/
theorem group_cells {n : Nat} {cs : List Value} {x : DataW H × List MemPlace} {a b c d : Int}
    (h : DataW.trod enc Tryz.prog w base spare held n 180 cs = some x) (hx : x.1 = .agg [.lit (.int .i64 a), .lit (.int .u64 b), .lit (.int .u64 c), .lit (.int .u64 d)]) :
    cs = [.int .i64 a, .int .u64 b, .int .u64 c, .int .u64 d] := by
  obtain ⟨xs, m, _, rfl, hl, hlen, hf⟩ := DataW.trod_struct Tryz.underlying180 h
  have hC : Tryz.prog.cellsOf 180 = 4 := by kernel_rfl
  rw [hC] at hl
  match cs, hl with
  | [v0, v1, v2, v3], _ =>
    have t0 := hf 0 _ rfl
    have t1 := hf 1 _ rfl
    have t2 := hf 2 _ rfl
    have t3 := hf 3 _ rfl
    match xs, hlen with
    | [x0, x1, x2, x3], _ =>
      obtain ⟨n0, e0, y0, _⟩ := DataW.trod_int Tryz.underlying161 (show DataW.trod enc Tryz.prog w base spare held m 161 [v0] = some x0 from t0)
      obtain ⟨n1, e1, y1, _⟩ := DataW.trod_int Tryz.underlying26 (show DataW.trod enc Tryz.prog w base spare held m 26 [v1] = some x1 from t1)
      obtain ⟨n2, e2, y2, _⟩ := DataW.trod_int Tryz.underlying26 (show DataW.trod enc Tryz.prog w base spare held m 26 [v2] = some x2 from t2)
      obtain ⟨n3, e3, y3, _⟩ := DataW.trod_int Tryz.underlying26 (show DataW.trod enc Tryz.prog w base spare held m 26 [v3] = some x3 from t3)
      simp at e0 e1 e2 e3
      subst e0 e1 e2 e3 y0 y1 y2 y3
      simp at hx
      obtain ⟨rfl, rfl, rfl, rfl⟩ := hx
      rfl
end
theorem list20 {l a b c d e : List Value} (hl : l.length = 20) (h0 : l.take 4 = a) (h1 : (l.drop 4).take 4 = b) (h2 : (l.drop 8).take 4 = c) (h3 : (l.drop 12).take 4 = d) (h4 : (l.drop 16).take 4 = e) : l = a ++ b ++ c ++ d ++ e := by
  subst h0 h1 h2 h3 h4
  match l, hl with
  | [_, _, _, _, _, _, _, _, _, _, _, _, _, _, _, _, _, _, _, _], _ => rfl
/-- What the condition gives. -/
theorem tab_of_laid {W : World} (h : laidMetH Tryz.prog laidT W) : Tab W := by
  rw [MakeChecks.laidMetH_plain _ _ _ (by kernel_rfl)] at h
  obtain ⟨ps, ⟨g0, t0, cs0, f0, p0, q0, hg0, ht0, hv0, hd0, _⟩, _, _⟩ := h
  obtain rfl := Option.some.inj (gGroups.symm.trans hg0)
  obtain rfl := Option.some.inj (tGroups.symm.trans ht0)
  obtain ⟨xs, m, _, hx, hl, hn, hel⟩ := DataW.trod_array Tryz.underlying181 hd0
  have c68 : Tryz.prog.cellsOf 180 = 4 := by kernel_rfl
  have c69 : Tryz.prog.cellsOf 181 = 20 := by kernel_rfl
  rw [c69] at hl
  rw [c68] at hel
  simp only [Prod.mk.injEq] at hx
  match xs, hn with
  | [x0, x1, x2, x3, x4], _ =>
    have hx1 := hx.1
    unfold Rows.laid_mezzanine_plic_groups at hx1
    simp only [List.map_cons, List.map_nil, DataW.agg.injEq, List.cons.injEq] at hx1
    obtain ⟨e0, e1, e2, e3, e4, _⟩ := hx1
    have k0 := group_cells (hel 0 (by decide)) e0.symm
    have k1 := group_cells (hel 1 (by decide)) e1.symm
    have k2 := group_cells (hel 2 (by decide)) e2.symm
    have k3 := group_cells (hel 3 (by decide)) e3.symm
    have k4 := group_cells (hel 4 (by decide)) e4.symm
    have hcs := list20 hl k0 k1 k2 k3 k4
    simp only [World.var?, gGroups, Option.bind_some] at hv0
    split at hv0
    · rename_i c t fr hb
      have hc := Option.some.inj hv0
      have hq : cs0 = tabQ := Array.ext' (by rw [hcs]; rfl)
      exact ⟨t, fr, by rw [hb, hc, hq]⟩
    · cases hv0

end Go.Proofs.YtbcnkhfpogglmaaGreatDoor.P5

namespace Go.Proofs.YtbcnkhfpogglmaaGreatDoor.U6
open Go.ChangeShapes Go.WideShapes Go.ChangeAt Go.RowKit
set_option linter.unusedVariables false
set_option maxRecDepth 100000

/-- The one listed variable. -/
abbrev laidT : List (String × DataW Unit) := [("mezzanine/uart.kept", Rows.laid_mezzanine_uart_kept)]
theorem gKept : Tryz.prog.globalNamed "mezzanine/uart.kept" = some 1 := by kernel_rfl
theorem tKept : (Tryz.prog.globals[1]?).map (·.type) = some 129 := by kernel_rfl
section
variable {H : Type} {enc : TypeId × Value → H} {w : World} {base : Nat} {spare : Nat → Bool} {held : Bool}
theorem byte_cell {n : Nat} {cs : List Value} {x : DataW H × List MemPlace} {a : Int} (hl : cs.length = 1) (h : DataW.trod enc Tryz.prog w base spare held n 5 cs = some x) (hx : x.1 = .lit (.int .u8 a)) : cs = [.int .u8 a] := by
  match cs, hl with
  | [v], _ =>
    obtain ⟨m, e, y, _⟩ := DataW.trod_int Tryz.underlying5 h
    simp at e
    subst e y
    simp at hx
    subst hx
    rfl
end
theorem list10 {l : List Value} {a : Nat → Value} (hl : l.length = 10) (h : ∀ i, i < 10 → (l.drop i).take 1 = [a i]) : l = (List.range 10).map a := by
  apply List.ext_getElem?
  intro i
  by_cases hi : i < 10
  · have h1 := h i hi
    have h2 : l[i]? = some (a i) := by
      have := congrArg (fun l => l[0]?) h1
      simpa [List.getElem?_take, List.getElem?_drop] using this
    rw [h2]; simp [hi]
  · rw [List.getElem?_eq_none (by omega), List.getElem?_eq_none (by simp; omega)]
/-- What the condition gives. -/
theorem tab_of_laid {W : World} (h : laidMetH Tryz.prog laidT W) : Tab W := by
  rw [MakeChecks.laidMetH_plain _ _ _ (by kernel_rfl)] at h
  obtain ⟨ps, ⟨g0, t0, cs0, f0, p0, q0, hg0, ht0, hv0, hd0, _⟩, _, _⟩ := h
  obtain rfl := Option.some.inj (gKept.symm.trans hg0)
  obtain rfl := Option.some.inj (tKept.symm.trans ht0)
  obtain ⟨xs, m, _, hx, hl, hn, hel⟩ := DataW.trod_array Tryz.underlying129 hd0
  have c5 : Tryz.prog.cellsOf 5 = 1 := by kernel_rfl
  have c50 : Tryz.prog.cellsOf 129 = 10 := by kernel_rfl
  rw [c50] at hl
  rw [c5] at hel
  simp only [Prod.mk.injEq] at hx
  match xs, hn with
  | [x0, x1, x2, x3, x4, x5, x6, x7, x8, x9], _ =>
    have hx1 := hx.1
    unfold Rows.laid_mezzanine_uart_kept at hx1
    simp only [List.map_cons, List.map_nil, DataW.agg.injEq, List.cons.injEq] at hx1
    obtain ⟨e0, e1, e2, e3, e4, e5, e6, e7, e8, e9, _⟩ := hx1
    have hcs : cs0.toList = (List.range 10).map fun i => keptQ.getD i undef := list10 hl fun i hi => by
      have hk : ((cs0.toList.drop i).take 1).length = 1 := by rw [List.length_take, List.length_drop, hl]; omega
      have hc : i = 0 ∨ i = 1 ∨ i = 2 ∨ i = 3 ∨ i = 4 ∨ i = 5 ∨ i = 6 ∨ i = 7 ∨ i = 8 ∨ i = 9 := by omega
      rcases hc with rfl | rfl | rfl | rfl | rfl | rfl | rfl | rfl | rfl | rfl
      · exact byte_cell hk (hel 0 (by decide)) e0.symm
      · exact byte_cell hk (hel 1 (by decide)) e1.symm
      · exact byte_cell hk (hel 2 (by decide)) e2.symm
      · exact byte_cell hk (hel 3 (by decide)) e3.symm
      · exact byte_cell hk (hel 4 (by decide)) e4.symm
      · exact byte_cell hk (hel 5 (by decide)) e5.symm
      · exact byte_cell hk (hel 6 (by decide)) e6.symm
      · exact byte_cell hk (hel 7 (by decide)) e7.symm
      · exact byte_cell hk (hel 8 (by decide)) e8.symm
      · exact byte_cell hk (hel 9 (by decide)) e9.symm
    simp only [World.var?, gKept, Option.bind_some] at hv0
    split at hv0
    · rename_i c t fr hb
      have hc := Option.some.inj hv0
      have hq : cs0 = keptQ := Array.ext' (by rw [hcs]; rfl)
      exact ⟨t, fr, by rw [hb, hc, hq]⟩
    · cases hv0

end Go.Proofs.YtbcnkhfpogglmaaGreatDoor.U6

namespace Go.Proofs.YtbcnkhfpogglmaaGreatDoor
open Go.ChangeShapes Go.WideShapes Go.ChangeAt Go.RowKit
set_option linter.unusedVariables false
set_option maxRecDepth 100000

/-- The listed variables. -/
abbrev laidT : List (String × DataW Unit) := [("mezzanine/plic.groups", Rows.laid_mezzanine_plic_groups), ("mezzanine/uart.kept", Rows.laid_mezzanine_uart_kept)]
theorem door_met (os : Os) (args : Array Value) : laidMetH Tryz.prog laidT ((World.doorLaid Tryz.prog 400 os).forCall (fun _ _ => 0) ⟨#[], args, []⟩).memory :=
  laidMetH_of_parts3 (fuel := 8) (laidMet_of_run' 8 (by kernel_rfl) (by kernel_rfl)) (by kernel_rfl) (by kernel_rfl)
/-- What the condition gives. -/
theorem tab_of_laid {W : World} (h : laidMetH Tryz.prog laidT W) : Tabs W := by
  rw [MakeChecks.laidMetH_plain _ _ _ (by kernel_rfl)] at h
  obtain ⟨ps, ⟨g0, t0, cs0, f0, p0, q0, hg0, ht0, hv0, hd0, hr, hps⟩, hn, hc⟩ := h
  subst hps
  refine ⟨P5.tab_of_laid ?_, U6.tab_of_laid ?_⟩
  · rw [MakeChecks.laidMetH_plain _ _ _ (by kernel_rfl)]
    refine ⟨MemPlace.row ⟨g0, 0, none⟩ cs0.size ++ p0 ++ [], ⟨g0, t0, cs0, f0, p0, [], hg0, ht0, hv0, hd0, rfl, rfl⟩, ?_, fun b off hm => hc b off ?_⟩
    · rw [List.append_nil]; exact (List.nodup_append.1 hn).1
    · rw [List.append_nil] at hm; exact List.mem_append.2 (.inl hm)
  · rw [MakeChecks.laidMetH_plain _ _ _ (by kernel_rfl)]
    exact ⟨q0, hr, (List.nodup_append.1 hn).2.1, fun b off hm => hc b off (List.mem_append.2 (.inr hm))⟩

end Go.Proofs.YtbcnkhfpogglmaaGreatDoor
