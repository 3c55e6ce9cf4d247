/- The law RamBack where its number has 8 bytes; all four lengths. -/
import Derived.Test.YtjnnoihdmkiclaaBackA
import Derived.Deep.RegionHeld3
import Derived.StillTailTactics
import Derived.BigQuiet
import Derived.Test.YtjnnoihdmkiclaaLawRamBackA
namespace Go.Proofs.Ytjnnoihdmkiclaa
open Go.RowKit
set_option linter.unusedVariables false

set_option maxRecDepth 100000 in
set_option maxHeartbeats 8000000 in
theorem ramBack_8 (a0 : Int) (l : Value) (xs : List ActV) (a2 a3 a4 : Int) (w : World) (i0 : In64 a0) (i2 : In64 a2) (i3 : In63 a3) (i4 : In64 a4) (hl : ActsIn w.heap.size w l xs)
    (hbl : ∀ i (hi : i < xs.length), xs[i].bs.length ≤ 140737488355328) (h3 : bits .and .i64 a3 3 = 3) :
    Calls Try.prog 6 #[.int .u64 a0, l, .int .u64 a2, .int .i64 a3, .int .u64 a4] w fun e w' => e = .returned (.bool true) ∧ Below w.heap.size w w' := by
  have HL := Lib.hid hl
  have HBL := Lib.hid hbl
  have HI4 := Lib.hid i4
  obtain ⟨al, cl, rfl, hll, _⟩ := hl
  have hll2 : xs.length ≤ 9223372036854775807 := by unfold maxLen at hll; omega
  have h00 := i0.1
  have h01 := i0.2
  have h20 := i2.1
  have h21 := i2.2
  have HOK : Hid (newOk (a0 % 1099511627776 * 4096) 12288 = true ∧ In64 (a0 % 1099511627776 * 4096) ∧ Fits (a0 % 1099511627776 * 4096) 12288) := Lib.hid ⟨by unfold newOk; rw [decide_eq_true_eq]; omega, by unfold In64; omega, by unfold Fits; omega⟩
  have hb1 : 0 ≤ a0 % 1099511627776 * 4096 := by omega
  have hb2 : a0 % 1099511627776 * 4096 ≤ 4503599627370496 := by omega
  clear hbl hll i4
  go_enter Try.func6, Try.ntmps6
  go_wp2_with fail
  refine (ramAwake_any ram w).mono ?_
  rintro e w1 ⟨rfl, hb⟩
  have HB1 := Lib.hid hb
  clear hb
  go_wp2_with fail
  refine (new_yes ram HOK.out.1 HOK.out.2.1 (by unfold In64; omega) w1).mono ?_
  rintro e w2 ⟨hb, b, S, rfl, hS, hM⟩
  have HM0 : Hid (Mine ram w w2 b S (a0 % 1099511627776 * 4096) 12288 fun _ => 0) := Lib.hid ⟨HB1.out.trans (hb.mono HB1.out.size), fun i hi => Nat.le_trans HB1.out.size (hS i hi), hM⟩
  clear hb hS hM
  generalize a0 % 1099511627776 * 4096 = base at *
  go_wp2_with fail
  refine (great_any w.heap.size w2 _ xs (HL.out.below HM0.out.bel) HBL.out).mono ?_
  rintro e w3 ⟨rfl, r, rfl, hr⟩
  have HR := Lib.hid hr
  clear hr
  cases r with
  | true =>
    go_wp2
    go_ret
    exact ⟨rfl, HM0.out.bel⟩
  | false =>
  go_wp2_with fail
  go_loopw [14] (fun i wr => ∃ k : Nat, k ≤ xs.length ∧ i = .int .i64 k ∧ ∃ S m, Mine ram w wr b S base 12288 m) (fun i _ => xs.length - (intOf i).toNat)
  case atStart => exact ⟨0, Nat.zero_le _, rfl, _, _, HM0.out⟩
  case round =>
    obtain ⟨k, hk, rfl, S1, m1, hM1⟩ := hrel
    have HM1 := Lib.hid hM1
    clear hM1 HM0
    by_cases hlt : k < xs.length
    · obtain ⟨_, _, hv, _, hx⟩ := HL.out.below HM1.out.bel
      injection hv with hv1 hv2 hv3
      subst hv1 hv3
      rcases hx with hx | ⟨bb, off, rfl, hbb, hc⟩
      · rw [hx] at hlt; simp at hlt
      have hA := hc k hlt
      obtain ⟨c0, c1, c2, c3, c4⟩ := act_cells hA
      have HA : Hid (In64 xs[k].a ∧ In63 xs[k].n ∧ In64 xs[k].v) := Lib.hid ⟨hA.2.2.2.2.2.2.2.2.1, hA.2.2.2.2.2.2.2.2.2⟩
      have hx0 := HA.out.1.1
      have hx1 := HA.out.1.2
      clear hA hc hv2
      generalize xs[k] = x at *
      obtain ⟨xd, xa, xn, xv, xb, xbs⟩ := x
      simp only at c0 c1 c2 c3 c4 hx0 hx1
      have hki : (k : Int) < (xs.length : Int) := by omega
      have hwr : Hid (In64 (base + xa % 12288)) := Lib.hid (by unfold In64; omega)
      go_wp2_with fail
      go_still_tail 19, (by kernel_rfl)
      change wpList _ _ _ _ _ wr.drew
      have HMd : Hid (Mine ram w wr.drew b S1 base 12288 m1) := Lib.hid (HM1.out.later (Below.refl _ _).drew)
      have d1 : wr.drew.cell? ⟨bb, off + k * 5 + 1, none⟩ = some (.int .u64 xa) := c1
      have d2 : wr.drew.cell? ⟨bb, off + k * 5 + 2, none⟩ = some (.int .i64 xn) := c2
      have d3 : wr.drew.cell? ⟨bb, off + k * 5 + 3, none⟩ = some (.int .u64 xv) := c3
      clear c0 c1 c2 c3 c4 HM1
      generalize wr.drew = wd at *
      go_wp2_with fail
      refine (ram.write (base + xa % 12288) xn xv HMd.out.mem HOK.out.2.2 hwr.out HA.out.2.1 HA.out.2.2).mono ?_
      rintro e w5 hE
      obtain ⟨S2, hM2⟩ := HMd.out.turned hE
      obtain ⟨rfl, _⟩ := hE
      have HM2 := Lib.hid hM2
      clear hM2 HMd d1 d2 d3
      go_wp2
      exact ⟨⟨k + 1, by omega, by go_num, S2, _, HM2.out⟩, by simp [intOf]; omega⟩
    · obtain rfl : k = xs.length := by omega
      have hat1 : 0 ≤ a2 % 12281 := Int.emod_nonneg _ (by decide)
      have hat2 : a2 % 12281 < 12281 := Int.emod_lt_of_pos _ (by decide)
      clear HL HR HB1
      have hat3 : base ≤ base + a2 % 12281 ∧ base + a2 % 12281 + 8 ≤ base + 12288 := by omega
      clear hat1 hat2
      go_wp2_with fail
      generalize base + a2 % 12281 = at_ at *
      have HAT : Hid (In64 at_ ∧ (okN 8 && hasZ base 12288 at_ 8) = true ∧ hasZ base 12288 base 12288 = true) := Lib.hid ⟨by unfold In64; omega, by unfold hasZ okN; rw [Bool.and_eq_true, decide_eq_true_eq, decide_eq_true_eq]; omega, by unfold hasZ; rw [decide_eq_true_eq]; omega⟩
      refine (ram.bytes base 12288 HM1.out.mem HOK.out.2.2 HOK.out.2.1 (by unfold In63; omega) (.inl (by omega))).mono ?_
      rintro e w6 hE
      obtain ⟨hb6, g, c, rfl, hg, hl⟩ := row_of hE HOK.out.2.2
      rw [HAT.out.2.2]
      have HM6 := Lib.hid (HM1.out.later hb6)
      have hgS : ¬ S1 g := fun hs => by have := ram.lt HM1.out.mem g hs; omega
      have HGL := Lib.hid (show w.heap.size ≤ g ∧ ¬ S1 g ∧ Lays w6 g ((bytesL m1 base 12288).map (Value.int .u8)) from ⟨Nat.le_trans HM1.out.bel.size hg, hgS, hl⟩)
      clear hE hb6 hg hl hgS HM1
      go_wp2_with fail
      refine (ram.write at_ 8 a4 HM6.out.mem HOK.out.2.2 HAT.out.1 (by unfold In63; omega) HI4.out).mono ?_
      rintro e w7 hE
      obtain ⟨S2, hM2⟩ := HM6.out.turned hE
      obtain ⟨rfl, hO, _⟩ := hE
      rw [HAT.out.2.1]
      have HM7 := Lib.hid hM2
      have HG7 := Lib.hid (HGL.out.2.2.keeps hO HGL.out.2.1)
      clear hM2 hO HM6 HGL
      go_wp2_with fail
      refine (ram.read at_ 8 HM7.out.mem HOK.out.2.2 HAT.out.1 (by unfold In63; omega)).mono ?_
      rintro e w8 ⟨rfl, hb8⟩
      have hrd := back_read (m := m1) (at_ := at_) (v := a4) (c := 8) HI4.out HOK.out.2.2 (by decide) (by omega) (by omega)
      have hrd2 : readV base 12288 (writeM base 12288 m1 at_ 8 a4) at_ 8 = (a4 % 18446744073709551616, true) := hrd
      rw [hrd2]
      have HM8 := Lib.hid (HM7.out.later hb8)
      have HG8 := Lib.hid (HG7.out.keeps (Only.of_below (fun _ => False) hb8) id)
      clear hrd hrd2 hb8 HM7 HG7
      go_wp2_with fail
      refine (ram.bytes base 12288 HM8.out.mem HOK.out.2.2 HOK.out.2.1 (by unfold In63; omega) (.inl (by omega))).mono ?_
      rintro e w9 hE
      obtain ⟨hb9, g9, c9, rfl, hg9, hl9⟩ := row_of hE HOK.out.2.2
      rw [HAT.out.2.2]
      have HM9 := Lib.hid (HM8.out.later hb9)
      have HG9 := Lib.hid (HG8.out.keeps (Only.of_below (fun _ => False) hb9) id)
      have HG99 := Lib.hid hl9
      have HMB := Lib.hid HM9.out.bel
      clear hE hb9 hg9 hl9 HM8 HG8
      have HQ : IntKind.u64.wrap (a4 * 1) / 1 = a4 % 18446744073709551616 := by unfold IntKind.wrap; simp [IntKind.signed, IntKind.bits] <;> omega
      clear HBL
      have HB9 : Hid (Below w.heap.size w w9) := Lib.hid HMB.out
      clear HMB
      go_wp2_with fail
      go_loopw [21] (fun i wr => ∃ k : Nat, k ≤ 12288 ∧ i = .int .i64 k ∧ Below w9.heap.size w9 wr) (fun i _ => 12288 - (intOf i).toNat)
      case atStart => exact ⟨0, by omega, rfl, Below.refl _ _⟩
      case round =>
        obtain ⟨k, hk, rfl, hbr⟩ := hrel
        by_cases hlt : k < 12288
        · have x1 := row_cell (HG9.out.keeps (Only.of_below (fun _ => False) hbr) id) hlt
          have x2 := row_cell (HG99.out.keeps (Only.of_below (fun _ => False) hbr) id) hlt
          have hki : (k : Int) < (12288 : Int) := by omega
          have HBR := Lib.hid hbr
          clear hbr
          by_cases ca : base + k < at_
          · have e2 : writeM base 12288 m1 at_ 8 a4 (base + k) = m1 (base + k) := back_out (c := 8) (base + k) (.inl ca)
            rw [e2] at x2
            clear e2
            generalize m1 (base + k) = y at x1 x2
            have t1 : (k : Int) + base < at_ := by omega
            have t2 : decide (at_ ≤ (k : Int) + base) = false := decide_eq_false (by omega)
            have t3 : (y != y) = false := by simp
            go_wp2_with fail
            go_quiet (fail)
            go_wp2
            exact ⟨⟨k + 1, by omega, by go_num, below_drewN HBR.out _⟩, by simp [intOf]; omega⟩
          · by_cases cb : base + k < at_ + 8
            · obtain ⟨j, hj, hjk⟩ : ∃ j : Nat, j < 8 ∧ base + (k : Int) = at_ + j := ⟨(base + k - at_).toNat, by omega, by omega⟩
              have e2 : writeM base 12288 m1 at_ 8 a4 (base + k) = a4 / 256 ^ j % 256 := by rw [hjk]; exact back_in (c := 8) HOK.out.2.2 (by decide) (by omega) (by omega) j hj
              rw [e2] at x2
              clear e2 x1
              have t1 : decide ((k : Int) + base < at_) = false := decide_eq_false (by omega)
              have t2 : decide (at_ + 8 ≤ (k : Int) + base) = false := decide_eq_false (by omega)
              have t3 : at_ ≤ (k : Int) + base := by omega
              have t4 : (k : Int) + base < at_ + 8 := by omega
              have t5 : (k : Int) + base - at_ = j := by omega
              clear hjk ca cb
              have hw8 : ∀ z : Int, IntKind.u8.wrap z = z % 256 := fun z => by unfold IntKind.wrap; simp [IntKind.signed, IntKind.bits]
              have hjs : j = 0 ∨ j = 1 ∨ j = 2 ∨ j = 3 ∨ j = 4 ∨ j = 5 ∨ j = 6 ∨ j = 7 := by omega
              rcases hjs with rfl | rfl | rfl | rfl | rfl | rfl | rfl | rfl
              all_goals
                go_wp2_with fail
                go_quiet (fail)
                go_wp2
                exact ⟨⟨k + 1, by omega, by go_num, below_drewN HBR.out _⟩, by simp [intOf]; omega⟩
            · have e2 : writeM base 12288 m1 at_ 8 a4 (base + k) = m1 (base + k) := back_out (c := 8) (base + k) (.inr (by omega))
              rw [e2] at x2
              clear e2
              generalize m1 (base + k) = y at x1 x2
              have t1 : decide ((k : Int) + base < at_) = false := decide_eq_false (by omega)
              have t2 : at_ + 8 ≤ (k : Int) + base := by omega
              have t3 : (y != y) = false := by simp
              have t4 : at_ ≤ (k : Int) + base := by omega
              have t5 : decide ((k : Int) + base < at_ + 8) = false := decide_eq_false (by omega)
              go_wp2_with fail
              go_quiet (fail)
              go_wp2
              exact ⟨⟨k + 1, by omega, by go_num, below_drewN HBR.out _⟩, by simp [intOf]; omega⟩
        · obtain rfl : k = 12288 := by omega
          have HM10 := Lib.hid (HM9.out.later hbr)
          clear hbr HG9 HG99 HM9
          have HH := Lib.hid (back_half (m := m1) (at_ := at_) (v := a4) (c := 4) HI4.out HOK.out.2.2 (by decide) (by decide) (by omega) (by omega))
          have HLO : Hid (readV base 12288 (writeM base 12288 m1 at_ 8 a4) at_ 4 = (a4 % 4294967296, true)) := Lib.hid HH.out.1
          have HHI : Hid (readV base 12288 (writeM base 12288 m1 at_ 8 a4) (at_ + 4) 4 = (a4 / 4294967296 % 4294967296, true)) := Lib.hid HH.out.2
          clear HH
          go_wp2_with fail
          refine (ram.read at_ 4 HM10.out.mem HOK.out.2.2 HAT.out.1 (by unfold In63; omega)).mono ?_
          rintro e w11 ⟨rfl, hb11⟩
          rw [HLO.out]
          have HM11 := Lib.hid (HM10.out.later hb11)
          clear hb11 HM10 HLO
          go_wp2_with fail
          refine (ram.read (at_ + 4) 4 HM11.out.mem HOK.out.2.2 (by unfold In64; omega) (by unfold In63; omega)).mono ?_
          rintro e w12 ⟨rfl, hb12⟩
          rw [HHI.out]
          have HM12 := Lib.hid (HM11.out.later hb12)
          clear hb12 HM11 HHI
          have q1 : 0 ≤ a4 % 4294967296 := Int.emod_nonneg _ (by decide)
          have q2 : a4 % 4294967296 < 4294967296 := Int.emod_lt_of_pos _ (by decide)
          have q3 : 0 ≤ a4 / 4294967296 % 4294967296 := Int.emod_nonneg _ (by decide)
          have q4 : a4 / 4294967296 % 4294967296 < 4294967296 := Int.emod_lt_of_pos _ (by decide)
          have q5 : a4 % 4294967296 + a4 / 4294967296 % 4294967296 * 4294967296 = a4 % 18446744073709551616 := by omega
          go_wp2
          go_ret
          exact ⟨ret_bool (by simp), HM12.out.bel⟩

theorem ramBack_walk (a0 : Int) (l : Value) (xs : List ActV) (a2 a3 a4 : Int) (w : World) (i0 : In64 a0) (i2 : In64 a2) (i3 : In63 a3) (i4 : In64 a4) (hl : ActsIn w.heap.size w l xs)
    (hbl : ∀ i (hi : i < xs.length), xs[i].bs.length ≤ 140737488355328) :
    Calls Try.prog 6 #[.int .u64 a0, l, .int .u64 a2, .int .i64 a3, .int .u64 a4] w fun e w' => e = .returned (.bool true) ∧ Below w.heap.size w w' := by
  have h := and3 i3
  have hc : a3 % 4 = 0 ∨ a3 % 4 = 1 ∨ a3 % 4 = 2 ∨ a3 % 4 = 3 := by omega
  rcases hc with hc | hc | hc | hc <;> rw [hc] at h
  · exact ramBack_1 a0 l xs a2 a3 a4 w i0 i2 i3 i4 hl hbl h
  · exact ramBack_2 a0 l xs a2 a3 a4 w i0 i2 i3 i4 hl hbl h
  · exact ramBack_4 a0 l xs a2 a3 a4 w i0 i2 i3 i4 hl hbl h
  · exact ramBack_8 a0 l xs a2 a3 a4 w i0 i2 i3 i4 hl hbl h

end Go.Proofs.Ytjnnoihdmkiclaa
