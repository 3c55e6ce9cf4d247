/- The law ClintBack, walked call by call. -/
import Derived.Test.YtpmlcnhkfnmheaaClLaw
import Derived.Test.YtpmlcnhkfnmheaaClActs
namespace Go.Proofs.Ytpmlcnhkfnmheaa
open Go.RowKit
set_option linter.unusedVariables false

theorem or_halves {c v : Int} (hc : In64 c) (hv : In64 v) : bits .or .u64 (IntKind.u64.wrap (c * 4294967296) / 4294967296) (IntKind.u64.wrap (v * 4294967296)) = v % 4294967296 * 4294967296 + c % 4294967296 := by
  have e1 : IntKind.u64.wrap (c * 4294967296) / 4294967296 = c % 4294967296 := by rw [IntKind.wrap_u64]; unfold In64 at hc; omega
  have e2 : IntKind.u64.wrap (v * 4294967296) = v % 4294967296 * 4294967296 := by rw [IntKind.wrap_u64]; unfold In64 at hv; omega
  rw [e1, e2, bits_or]
  have a1 : In64 (c % 4294967296) := by unfold In64 at *; omega
  have a2 : In64 (v % 4294967296 * 4294967296) := by unfold In64 at *; omega
  have n1 := V_nat a1
  have n2 := V_nat a2
  unfold U
  rw [BitVec.toNat_or, Nat.or_comm]
  have m : (V (v % 4294967296 * 4294967296)).toNat = 2 ^ 32 * (v % 4294967296).toNat := by
    have : 0 ≤ v % 4294967296 := by omega
    omega
  have l : (V (c % 4294967296)).toNat < 2 ^ 32 := by omega
  rw [m, ← Nat.two_pow_add_eq_or_of_lt l]
  omega

set_option maxRecDepth 100000 in
set_option maxHeartbeats 4000000 in
theorem clintBack_walk (l : Value) (xs : List ActV) (at' v : Int) (w : World) (hl : ActsIn w.heap.size w l xs) (ia : 0 ≤ at' ∧ at' ≤ 255) (iv : In64 v) :
    Calls Try.prog 6 #[l, .int .u8 at', .int .u64 v] w fun e w' => e = .returned (.bool true) ∧ Below w.heap.size w w' := by
  have HL := Lib.hid hl
  obtain ⟨al, cl, rfl, hll, _⟩ := hl
  have hll2 : xs.length ≤ 9223372036854775807 := by unfold maxLen at hll; omega
  have IV := Lib.hid iv
  have ia0 := ia.1
  have iv0 := iv.1
  clear hll iv
  by_cases hx60 : 60 < xs.length
  · go_enter Try.func6, Try.ntmps6
    go_wp2_with fail
    refine (awake_any _).mono ?_
    rintro e w1 ⟨rfl, hb⟩
    have HB := Lib.hid hb
    clear hb
    go_wp2
    go_ret
    exact ⟨rfl, HB.out⟩
  have hd60 : decide ((60 : Int) < (xs.length : Int)) = false := by rw [decide_eq_false_iff_not]; omega
  clear hx60
  go_enter Try.func6, Try.ntmps6
  go_wp2_with fail
  refine (awake_any _).mono ?_
  rintro e w1 ⟨rfl, hb⟩
  have HB := Lib.hid hb
  clear hb
  go_wp2_with fail
  refine (new_is _).mono ?_
  rintro e w2 ⟨rfl, hb⟩
  have HO := Lib.hid (OwnP.made (t := ⟨false, 18446744073709551615, 0⟩) (HB.out.trans (hb.mono HB.out.size)) (by unfold Cl.ok In64; decide))
  clear hb HB
  go_wp2_with fail
  try simp only at HO
  generalize hbb : w2.heap.size = b at *
  clear hbb
  generalize w2.alloc (.cells #[.bool false, .int .u64 18446744073709551615, .int .u64 0] 26) = w3 at *
  go_loopw [8] (fun i wr => ∃ k : Nat, k ≤ xs.length ∧ i = .int .i64 k ∧ ∃ t, OwnP w wr b t) (fun i _ => xs.length - (intOf i).toNat)
  case atStart => exact ⟨0, Nat.zero_le _, rfl, _, HO.out⟩
  case round =>
    obtain ⟨k, hk, rfl, t, hT⟩ := hrel
    have HT := Lib.hid hT
    have hbr := hT.1
    clear hT HO
    by_cases hlt : k < xs.length
    · obtain ⟨_, _, hv, _, hx⟩ := HL.out.below hbr
      injection hv with hv1 hv2 hv3
      subst hv1 hv3
      rcases hx with hx | ⟨bb, off, rfl, hbb, hc⟩
      · rw [hx] at hlt; simp at hlt
      obtain ⟨c0, c1, c2, c3, r0, r1, r2, r3⟩ := act_at (hc k hlt)
      have R1 := Lib.hid r1
      have R3 := Lib.hid r3
      have hbb2 := hbb
      clear hc hbr hv2 r0 r1 r2 r3
      generalize xs[k] = x at *
      obtain ⟨xd, xa, xn, xv⟩ := x
      simp only at c0 c1 c2 c3
      go_wp2_with fail
      go_still_tail 15, (by kernel_rfl)
      change wpList _ _ _ _ _ wr.drew
      have HD : Hid (OwnP w wr.drew b t) := Lib.hid (HT.out.below (Below.refl _ _).drew)
      have d3 : wr.drew.cell? ⟨bb, off + k * 4 + 3, none⟩ = some (.int .u64 xv) := c3
      have hne : ¬ bb = b := by have := HT.out.2.1; omega
      clear c0 c1 c2 c3 HT
      generalize wr.drew = wd at *
      go_wp2_with fail
      refine (write_any _ b t HD.out.2.2 _ _ _ R1.out R3.out).mono ?_
      rintro e w5 ⟨rfl, ho, hp⟩
      have HD2 := Lib.hid (HD.out.turn ho hp)
      have e3 := ho.cell hne d3
      clear ho hp HD d3
      go_wp2_with fail
      refine (tick_any _ b _ HD2.out.2.2 _ R3.out).mono ?_
      rintro e w6 ⟨hu, ho, hp⟩
      obtain ⟨u, rfl⟩ := hu
      have HD3 := Lib.hid (HD2.out.turn ho hp)
      clear ho hp e3 HD2
      go_wp2
      exact ⟨⟨k + 1, by omega, by go_num, _, HD3.out⟩, by simp [intOf]; omega⟩
    · obtain rfl : k = xs.length := by omega
      clear hbr HL
      obtain ⟨s, c, n⟩ := t
      have HOK := Lib.hid HT.out.2.2.2
      obtain ⟨c0, c1, c2⟩ := HT.out.cells
      go_wp2_with fail
      refine (read_is _ _ _ _ _ _ c true HOK.out (by unfold In64; decide) rfl (by decide)).mono ?_
      rintro e w4 ⟨rfl, hb⟩
      replace HT := Lib.hid (HT.out.below hb)
      clear c0 c1 c2 hb
      obtain ⟨c0, c1, c2⟩ := HT.out.cells
      go_wp2_with fail
      refine (read_is _ _ _ _ _ _ n true HOK.out (by unfold In64; decide) rfl (by decide)).mono ?_
      rintro e w5 ⟨rfl, hb⟩
      replace HT := Lib.hid (HT.out.below hb)
      clear c0 c1 c2 hb
      obtain ⟨c0, c1, c2⟩ := HT.out.cells
      go_wp2_with fail
      refine (msip_is _ _ _ _).mono ?_
      rintro e w6 ⟨rfl, hb⟩
      replace HT := Lib.hid (HT.out.below hb)
      clear c0 c1 c2 hb
      obtain ⟨c0, c1, c2⟩ := HT.out.cells
      go_wp2_with fail
      refine (time_is _ _ _).mono ?_
      rintro e w7 ⟨rfl, hb⟩
      replace HT := Lib.hid (HT.out.below hb)
      clear c0 c1 c2 hb
      obtain ⟨c0, c1, c2⟩ := HT.out.cells
      obtain ⟨rm, hrm⟩ : ∃ rm, at' % 4 = rm := ⟨_, rfl⟩
      have hrm4 : rm = 0 ∨ rm = 1 ∨ rm = 2 ∨ rm = 3 := by omega
      rcases hrm4 with rfl | rfl | rfl | rfl
      · obtain ⟨r0, hr0⟩ : ∃ r, (v % 2 == 1) = r := ⟨_, rfl⟩
        have HR0 := Lib.hid hr0
        have hwt : wrC ⟨s, c, n⟩ v (kindC 0 4) = ⟨r0, c, n⟩ := by show (⟨v % 2 == 1, c, n⟩ : Cl) = _; rw [HR0.out]
        have HW := Lib.hid hwt
        clear hwt
        go_wp2_with fail
        (with_reducible refine (write_is _ b ⟨s, c, n⟩ ⟨r0, c, n⟩ 0 4 v true HT.out.prog (by unfold In64; decide) IV.out HW.out (by decide)).mono ?_)
        rintro e w8 ⟨rfl, ho, hp⟩
        replace HT := Lib.hid (HT.out.turn ho hp)
        clear c0 c1 c2 ho hp
        obtain ⟨c0, c1, c2⟩ := HT.out.cells
        go_wp2_with fail
        (with_reducible refine (msip_is _ _ _ _).mono ?_)
        rintro e w9 ⟨rfl, hb⟩
        replace HT := Lib.hid (HT.out.below hb)
        clear c0 c1 c2 hb
        obtain ⟨c0, c1, c2⟩ := HT.out.cells
        go_wp2_with fail
        (with_reducible refine (msip_is _ _ _ _).mono ?_)
        rintro e w10 ⟨rfl, hb⟩
        replace HT := Lib.hid (HT.out.below hb)
        clear c0 c1 c2 hb
        obtain ⟨c0, c1, c2⟩ := HT.out.cells
        have HK := Lib.hid HT.out.okay
        have hn0 : 0 ≤ n := HK.out.2.1
        have hsum : IntKind.u64.wrap (n % 4294967296 + IntKind.u64.wrap (n / 4294967296 * 4294967296)) = n := by
          have h := HK.out.2
          unfold In64 at h
          simp only at h
          rw [IntKind.wrap_u64, IntKind.wrap_u64]; omega
        go_wp2_with fail
        (with_reducible refine (read_is _ _ _ _ _ _ c true HK.out (by unfold In64; decide) rfl (by decide)).mono ?_)
        rintro e w11 ⟨rfl, hb⟩
        replace HT := Lib.hid (HT.out.below hb)
        clear c0 c1 c2 hb
        obtain ⟨c0, c1, c2⟩ := HT.out.cells
        go_wp2_with fail
        (with_reducible refine (read_is _ _ _ _ _ _ (n % 4294967296) true HK.out (by unfold In64; decide) rfl (by decide)).mono ?_)
        rintro e w12 ⟨rfl, hb⟩
        replace HT := Lib.hid (HT.out.below hb)
        clear c0 c1 c2 hb
        obtain ⟨c0, c1, c2⟩ := HT.out.cells
        go_wp2_with fail
        (with_reducible refine (read_is _ _ _ _ _ _ (n / 4294967296) true HK.out (by unfold In64; decide) rfl (by decide)).mono ?_)
        rintro e w13 ⟨rfl, hb⟩
        replace HT := Lib.hid (HT.out.below hb)
        clear c0 c1 c2 hb
        obtain ⟨c0, c1, c2⟩ := HT.out.cells
        go_wp2_with fail
        (with_reducible refine (time_is _ _ _).mono ?_)
        rintro e w14 ⟨rfl, hb⟩
        replace HT := Lib.hid (HT.out.below hb)
        clear c0 c1 c2 hb
        obtain ⟨c0, c1, c2⟩ := HT.out.cells
        go_wp2_with fail
        (with_reducible refine (msip_is _ _ _ _).mono ?_)
        rintro e w15 ⟨rfl, hb⟩
        replace HT := Lib.hid (HT.out.below hb)
        clear c0 c1 c2 hb
        obtain ⟨c0, c1, c2⟩ := HT.out.cells
        obtain ⟨r, hr⟩ : ∃ r, decide (c ≤ n) = r := ⟨_, rfl⟩
        have hmr : mtC ⟨false, c, n⟩ = r := hr
        have HM := Lib.hid hmr
        clear hmr
        go_wp2_with fail
        (with_reducible refine (mtip_is _ false c n r HM.out).mono ?_)
        rintro e w16 ⟨rfl, hb⟩
        replace HT := Lib.hid (HT.out.below hb)
        clear c0 c1 c2 hb
        obtain ⟨c0, c1, c2⟩ := HT.out.cells
        go_wp2
        go_ret
        exact ⟨rfl, HT.out.1⟩
      · have hwt : wrC ⟨s, c, n⟩ v (kindC 16384 8) = ⟨s, v, n⟩ := rfl
        have HW := Lib.hid hwt
        clear hwt
        go_wp2_with fail
        (with_reducible refine (write_is _ b ⟨s, c, n⟩ ⟨s, v, n⟩ 16384 8 v true HT.out.prog (by unfold In64; decide) IV.out HW.out (by decide)).mono ?_)
        rintro e w8 ⟨rfl, ho, hp⟩
        replace HT := Lib.hid (HT.out.turn ho hp)
        clear c0 c1 c2 ho hp
        obtain ⟨c0, c1, c2⟩ := HT.out.cells
        have HK := Lib.hid HT.out.okay
        have hn0 : 0 ≤ n := HK.out.2.1
        have hsum : IntKind.u64.wrap (n % 4294967296 + IntKind.u64.wrap (n / 4294967296 * 4294967296)) = n := by
          have h := HK.out.2
          unfold In64 at h
          simp only at h
          rw [IntKind.wrap_u64, IntKind.wrap_u64]; omega
        go_wp2_with fail
        (with_reducible refine (read_is _ _ _ _ _ _ v true HK.out (by unfold In64; decide) rfl (by decide)).mono ?_)
        rintro e w9 ⟨rfl, hb⟩
        replace HT := Lib.hid (HT.out.below hb)
        clear c0 c1 c2 hb
        obtain ⟨c0, c1, c2⟩ := HT.out.cells
        go_wp2_with fail
        (with_reducible refine (read_is _ _ _ _ _ _ (n % 4294967296) true HK.out (by unfold In64; decide) rfl (by decide)).mono ?_)
        rintro e w10 ⟨rfl, hb⟩
        replace HT := Lib.hid (HT.out.below hb)
        clear c0 c1 c2 hb
        obtain ⟨c0, c1, c2⟩ := HT.out.cells
        go_wp2_with fail
        (with_reducible refine (read_is _ _ _ _ _ _ (n / 4294967296) true HK.out (by unfold In64; decide) rfl (by decide)).mono ?_)
        rintro e w11 ⟨rfl, hb⟩
        replace HT := Lib.hid (HT.out.below hb)
        clear c0 c1 c2 hb
        obtain ⟨c0, c1, c2⟩ := HT.out.cells
        go_wp2_with fail
        (with_reducible refine (time_is _ _ _).mono ?_)
        rintro e w12 ⟨rfl, hb⟩
        replace HT := Lib.hid (HT.out.below hb)
        clear c0 c1 c2 hb
        obtain ⟨c0, c1, c2⟩ := HT.out.cells
        go_wp2_with fail
        (with_reducible refine (msip_is _ _ _ _).mono ?_)
        rintro e w13 ⟨rfl, hb⟩
        replace HT := Lib.hid (HT.out.below hb)
        clear c0 c1 c2 hb
        obtain ⟨c0, c1, c2⟩ := HT.out.cells
        obtain ⟨r, hr⟩ : ∃ r, decide (v ≤ n) = r := ⟨_, rfl⟩
        have hmr : mtC ⟨false, v, n⟩ = r := hr
        have HM := Lib.hid hmr
        clear hmr
        go_wp2_with fail
        (with_reducible refine (mtip_is _ false v n r HM.out).mono ?_)
        rintro e w14 ⟨rfl, hb⟩
        replace HT := Lib.hid (HT.out.below hb)
        clear c0 c1 c2 hb
        obtain ⟨c0, c1, c2⟩ := HT.out.cells
        go_wp2
        go_ret
        exact ⟨rfl, HT.out.1⟩
      · have HV2 : Hid (In64 (v / 4294967296)) := by
          have h := IV.out
          refine Lib.hid ?_
          unfold In64 at *; omega
        obtain ⟨n2, hn2⟩ : ∃ n2, v / 4294967296 % 4294967296 * 4294967296 + n % 4294967296 = n2 := ⟨_, rfl⟩
        have HN2 : Hid (n2 / 4294967296 * 4294967296 + v % 4294967296 = v) := by
          have h := IV.out
          have h2 := HOK.out.2
          refine Lib.hid ?_
          unfold In64 at *
          simp only at h2
          omega
        have HN := Lib.hid hn2
        clear hn2
        have hwt : wrC ⟨s, c, n⟩ (v / 4294967296) (kindC 49148 4) = ⟨s, c, n2⟩ := by show (⟨s, c, v / 4294967296 % 4294967296 * 4294967296 + n % 4294967296⟩ : Cl) = _; rw [HN.out]
        have HW := Lib.hid hwt
        clear hwt
        go_wp2_with fail
        (with_reducible refine (write_is _ b ⟨s, c, n⟩ ⟨s, c, n2⟩ 49148 4 (v / 4294967296) true HT.out.prog (by unfold In64; decide) HV2.out HW.out (by decide)).mono ?_)
        rintro e w8 ⟨rfl, ho, hp⟩
        replace HT := Lib.hid (HT.out.turn ho hp)
        clear c0 c1 c2 ho hp
        obtain ⟨c0, c1, c2⟩ := HT.out.cells
        have hwt : wrC ⟨s, c, n2⟩ v (kindC 49144 4) = ⟨s, c, v⟩ := by show (⟨s, c, n2 / 4294967296 * 4294967296 + v % 4294967296⟩ : Cl) = _; rw [HN2.out]
        have HW := Lib.hid hwt
        clear hwt
        go_wp2_with fail
        (with_reducible refine (write_is _ b ⟨s, c, n2⟩ ⟨s, c, v⟩ 49144 4 v true HT.out.prog (by unfold In64; decide) IV.out HW.out (by decide)).mono ?_)
        rintro e w9 ⟨rfl, ho, hp⟩
        replace HT := Lib.hid (HT.out.turn ho hp)
        clear c0 c1 c2 ho hp
        obtain ⟨c0, c1, c2⟩ := HT.out.cells
        have HK := Lib.hid HT.out.okay
        have hn0 : 0 ≤ v := HK.out.2.1
        have hsum : IntKind.u64.wrap (v % 4294967296 + IntKind.u64.wrap (v / 4294967296 * 4294967296)) = v := by
          have h := HK.out.2
          unfold In64 at h
          simp only at h
          rw [IntKind.wrap_u64, IntKind.wrap_u64]; omega
        go_wp2_with fail
        (with_reducible refine (read_is _ _ _ _ _ _ c true HK.out (by unfold In64; decide) rfl (by decide)).mono ?_)
        rintro e w10 ⟨rfl, hb⟩
        replace HT := Lib.hid (HT.out.below hb)
        clear c0 c1 c2 hb
        obtain ⟨c0, c1, c2⟩ := HT.out.cells
        go_wp2_with fail
        (with_reducible refine (read_is _ _ _ _ _ _ (v % 4294967296) true HK.out (by unfold In64; decide) rfl (by decide)).mono ?_)
        rintro e w11 ⟨rfl, hb⟩
        replace HT := Lib.hid (HT.out.below hb)
        clear c0 c1 c2 hb
        obtain ⟨c0, c1, c2⟩ := HT.out.cells
        go_wp2_with fail
        (with_reducible refine (read_is _ _ _ _ _ _ (v / 4294967296) true HK.out (by unfold In64; decide) rfl (by decide)).mono ?_)
        rintro e w12 ⟨rfl, hb⟩
        replace HT := Lib.hid (HT.out.below hb)
        clear c0 c1 c2 hb
        obtain ⟨c0, c1, c2⟩ := HT.out.cells
        go_wp2_with fail
        (with_reducible refine (time_is _ _ _).mono ?_)
        rintro e w13 ⟨rfl, hb⟩
        replace HT := Lib.hid (HT.out.below hb)
        clear c0 c1 c2 hb
        obtain ⟨c0, c1, c2⟩ := HT.out.cells
        go_wp2_with fail
        (with_reducible refine (msip_is _ _ _ _).mono ?_)
        rintro e w14 ⟨rfl, hb⟩
        replace HT := Lib.hid (HT.out.below hb)
        clear c0 c1 c2 hb
        obtain ⟨c0, c1, c2⟩ := HT.out.cells
        obtain ⟨r, hr⟩ : ∃ r, decide (c ≤ v) = r := ⟨_, rfl⟩
        have hmr : mtC ⟨false, c, v⟩ = r := hr
        have HM := Lib.hid hmr
        clear hmr
        go_wp2_with fail
        (with_reducible refine (mtip_is _ false c v r HM.out).mono ?_)
        rintro e w15 ⟨rfl, hb⟩
        replace HT := Lib.hid (HT.out.below hb)
        clear c0 c1 c2 hb
        obtain ⟨c0, c1, c2⟩ := HT.out.cells
        go_wp2
        go_ret
        exact ⟨rfl, HT.out.1⟩
      · obtain ⟨cn, hcn⟩ : ∃ cn, v % 4294967296 * 4294967296 + c % 4294967296 = cn := ⟨_, rfl⟩
        have HCN := Lib.hid hcn
        have hor : bits .or .u64 (IntKind.u64.wrap (c * 4294967296) / 4294967296) (IntKind.u64.wrap (v * 4294967296)) = cn := by
          rw [← hcn]; exact or_halves HOK.out.1 IV.out
        clear hcn
        have hwt : wrC ⟨s, c, n⟩ v (kindC 16388 4) = ⟨s, cn, n⟩ := by show (⟨s, v % 4294967296 * 4294967296 + c % 4294967296, n⟩ : Cl) = _; rw [HCN.out]
        have HW := Lib.hid hwt
        clear hwt
        go_wp2_with fail
        (with_reducible refine (write_is _ b ⟨s, c, n⟩ ⟨s, cn, n⟩ 16388 4 v true HT.out.prog (by unfold In64; decide) IV.out HW.out (by decide)).mono ?_)
        rintro e w8 ⟨rfl, ho, hp⟩
        replace HT := Lib.hid (HT.out.turn ho hp)
        clear c0 c1 c2 ho hp
        obtain ⟨c0, c1, c2⟩ := HT.out.cells
        have HK := Lib.hid HT.out.okay
        have hn0 : 0 ≤ n := HK.out.2.1
        have hsum : IntKind.u64.wrap (n % 4294967296 + IntKind.u64.wrap (n / 4294967296 * 4294967296)) = n := by
          have h := HK.out.2
          unfold In64 at h
          simp only at h
          rw [IntKind.wrap_u64, IntKind.wrap_u64]; omega
        go_wp2_with fail
        (with_reducible refine (read_is _ _ _ _ _ _ cn true HK.out (by unfold In64; decide) rfl (by decide)).mono ?_)
        rintro e w9 ⟨rfl, hb⟩
        replace HT := Lib.hid (HT.out.below hb)
        clear c0 c1 c2 hb
        obtain ⟨c0, c1, c2⟩ := HT.out.cells
        go_wp2_with fail
        (with_reducible refine (read_is _ _ _ _ _ _ (n % 4294967296) true HK.out (by unfold In64; decide) rfl (by decide)).mono ?_)
        rintro e w10 ⟨rfl, hb⟩
        replace HT := Lib.hid (HT.out.below hb)
        clear c0 c1 c2 hb
        obtain ⟨c0, c1, c2⟩ := HT.out.cells
        go_wp2_with fail
        (with_reducible refine (read_is _ _ _ _ _ _ (n / 4294967296) true HK.out (by unfold In64; decide) rfl (by decide)).mono ?_)
        rintro e w11 ⟨rfl, hb⟩
        replace HT := Lib.hid (HT.out.below hb)
        clear c0 c1 c2 hb
        obtain ⟨c0, c1, c2⟩ := HT.out.cells
        go_wp2_with fail
        (with_reducible refine (time_is _ _ _).mono ?_)
        rintro e w12 ⟨rfl, hb⟩
        replace HT := Lib.hid (HT.out.below hb)
        clear c0 c1 c2 hb
        obtain ⟨c0, c1, c2⟩ := HT.out.cells
        go_wp2_with fail
        (with_reducible refine (msip_is _ _ _ _).mono ?_)
        rintro e w13 ⟨rfl, hb⟩
        replace HT := Lib.hid (HT.out.below hb)
        clear c0 c1 c2 hb
        obtain ⟨c0, c1, c2⟩ := HT.out.cells
        obtain ⟨r, hr⟩ : ∃ r, decide (cn ≤ n) = r := ⟨_, rfl⟩
        have hmr : mtC ⟨false, cn, n⟩ = r := hr
        have HM := Lib.hid hmr
        clear hmr
        go_wp2_with fail
        (with_reducible refine (mtip_is _ false cn n r HM.out).mono ?_)
        rintro e w14 ⟨rfl, hb⟩
        replace HT := Lib.hid (HT.out.below hb)
        clear c0 c1 c2 hb
        obtain ⟨c0, c1, c2⟩ := HT.out.cells
        go_wp2
        go_ret
        exact ⟨rfl, HT.out.1⟩

end Go.Proofs.Ytpmlcnhkfnmheaa
