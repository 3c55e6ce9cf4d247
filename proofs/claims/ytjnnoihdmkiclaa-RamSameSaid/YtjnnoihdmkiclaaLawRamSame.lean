/- The law RamSame, walked call by call. -/
import Derived.Test.YtjnnoihdmkiclaaDuo
namespace Go.Proofs.Ytjnnoihdmkiclaa
open Go.RowKit
set_option linter.unusedVariables false

/-- The k-th act's cells, as the law loads them. -/
theorem act_at {B : Nat} {w : World} {b off k : Nat} {x : ActV} (h : ActAt B w ⟨b, off + k * 5, none⟩ x) :
    w.cell? ⟨b, off + k * 5, none⟩ = some (.int .i64 x.d) ∧ w.cell? ⟨b, off + k * 5 + 1, none⟩ = some (.int .u64 x.a) ∧ w.cell? ⟨b, off + k * 5 + 2, none⟩ = some (.int .i64 x.n) ∧ w.cell? ⟨b, off + k * 5 + 3, none⟩ = some (.int .u64 x.v) ∧ w.cell? ⟨b, off + k * 5 + 4, none⟩ = some x.b := by
  obtain ⟨h0, h1, h2, h3, h4, _⟩ := h
  rw [add_none] at h0 h1 h2 h3 h4
  exact ⟨h0, h1, h2, h3, h4⟩

set_option maxRecDepth 100000 in
set_option maxHeartbeats 4000000 in
theorem ramSame_walk (a0 a1 a2 a3 : Int) (l m : Value) (xs ys : List ActV) (w : World) (i0 : In64 a0) (i1 : In64 a1) (i2 : In64 a2) (i3 : In64 a3) (hl : ActsIn w.heap.size w l xs) (hm : ActsIn w.heap.size w m ys)
    (hbl : ∀ i (hi : i < xs.length), xs[i].bs.length ≤ 140737488355328) (hbm : ∀ i (hi : i < ys.length), ys[i].bs.length ≤ 140737488355328) :
    Calls Try.prog 5 #[.int .u64 a0, .int .u64 a1, .int .u64 a2, .int .u64 a3, l, m] w fun e w' => e = .returned (.bool true) ∧ Below w.heap.size w w' := by
  have HL := Lib.hid hl
  have HM := Lib.hid hm
  have HBL := Lib.hid hbl
  have HBM := Lib.hid hbm
  obtain ⟨al, cl, rfl, hll, _⟩ := hl
  obtain ⟨am, cm, rfl, hlm, _⟩ := hm
  have hll2 : xs.length ≤ 9223372036854775807 := by unfold maxLen at hll; omega
  have hlm2 : ys.length ≤ 9223372036854775807 := by unfold maxLen at hlm; omega
  clear hbl hbm hll hlm
  go_enter Try.func5, Try.ntmps5
  go_wp2_with fail
  refine (ramAwake_any ram w).mono ?_
  rintro e w1 ⟨rfl, hb⟩
  have HB1 := Lib.hid hb
  clear hb
  go_wp2_with fail
  refine (great_any w.heap.size w1 _ xs (HL.out.below HB1.out) HBL.out).mono ?_
  rintro e w2 ⟨rfl, r, rfl, hr⟩
  have HR := Lib.hid hr
  clear hr
  cases r with
  | true =>
    go_wp2
    go_ret
    exact ⟨rfl, HB1.out⟩
  | false =>
  go_wp2_with fail
  refine (great_any w.heap.size w1 _ ys (HM.out.below HB1.out) HBM.out).mono ?_
  rintro e w2 ⟨rfl, r2, rfl, hr2⟩
  have HR2 := Lib.hid hr2
  clear hr2
  cases r2 with
  | true =>
    go_wp2
    go_ret
    exact ⟨rfl, HB1.out⟩
  | false =>
  by_cases hx30 : 30 < xs.length
  · go_wp2
    go_ret
    exact ⟨rfl, HB1.out⟩
  by_cases hy30 : 30 < ys.length
  · go_wp2
    go_ret
    exact ⟨rfl, HB1.out⟩
  go_wp2_with fail
  refine (newP_any a0 a1 w1 i0 i1).mono ?_
  rintro e w2 ⟨hb2, p, k2, S, rfl, hS, hp⟩
  have HB2 := Lib.hid hb2
  have HS := Lib.hid hS
  have HP := Lib.hid hp
  clear hb2 hS hp
  go_wp2_with fail
  refine (newP_any a2 a3 w2 i2 i3).mono ?_
  rintro e w3 ⟨hb3, p', k3, S', rfl, hS', hp'⟩
  have HB3 := Lib.hid hb3
  have HS' := Lib.hid hS'
  have HP' := Lib.hid hp'
  clear hb3 hS' hp'
  go_wp2_with fail
  refine (newR_any a0 a1 w3 i0 i1).mono ?_
  rintro e w4 ⟨hb4, q, k4, G, rfl, hG, hq⟩
  have HB4 := Lib.hid hb4
  have HG := Lib.hid hG
  have HQ := Lib.hid hq
  clear hb4 hG hq
  go_wp2_with fail
  refine (newR_any a2 a3 w4 i2 i3).mono ?_
  rintro e w5 ⟨hb5, q', k5, G', rfl, hG', hq'⟩
  have HTWO : Hid (Two w p q p' q' 0 0 w5) := by
    have s1 := HB1.out.size
    have s2 := HB2.out.size
    have s3 := HB3.out.size
    have s4 := HB4.out.size
    have s5 := hb5.size
    have b12 := HB1.out.trans (HB2.out.mono s1)
    have b13 := b12.trans (HB3.out.mono b12.size)
    have b14 := b13.trans (HB4.out.mono b13.size)
    have b15 := b14.trans (hb5.mono b14.size)
    refine Lib.hid ⟨fun i => S i ∨ G i, fun i => S' i ∨ G' i, _, _, b15, ?_, ?_, ?_, duo_of (((HP.out.below HB3.out).below HB4.out).below hb5) (HQ.out.below hb5) ?_, duo_of ((HP'.out.below HB4.out).below hb5) hq' ?_⟩
    · rintro i (h | h)
      · have := HS.out i h; exact ⟨by omega, by omega⟩
      · have := HG.out i h; exact ⟨by omega, by omega⟩
    · rintro i (h | h)
      · have := HS'.out i h; exact ⟨by omega, by omega⟩
      · have := hG' i h; exact ⟨by omega, by omega⟩
    · rintro i (h | h) (h' | h')
      · have := HS.out i h; have := HS'.out i h'; omega
      · have := HS.out i h; have := hG' i h'; omega
      · have := HG.out i h; have := HS'.out i h'; omega
      · have := HG.out i h; have := hG' i h'; omega
    · intro i h h'
      have := HS.out i h; have := HG.out i h'; omega
    · intro i h h'
      have := HS'.out i h; have := hG' i h'; omega
  clear hb5 hG' hq'
  go_wp2_with fail
  go_loopw [21] (fun i wr => ∃ k : Nat, k ≤ xs.length ∧ i = .int .i64 k ∧ Two w p q p' q' (3008 * k) 0 wr) (fun i _ => xs.length - (intOf i).toNat)
  case atStart => exact ⟨0, Nat.zero_le _, rfl, HTWO.out⟩
  case round =>
    obtain ⟨k, hk, rfl, hT⟩ := hrel
    have HT := Lib.hid hT
    have hbr : Below w.heap.size w wr := by obtain ⟨_, _, _, _, h, _⟩ := hT; exact h
    clear hT
    by_cases hlt : k < xs.length
    · obtain ⟨_, _, hv, _, hx⟩ := HL.out.below hbr
      injection hv with hv1 hv2 hv3
      subst hv1 hv3
      rcases hx with hx | ⟨b, off, rfl, hbb, hc⟩
      · rw [hx] at hlt; simp at hlt
      have hA := hc k hlt
      have HLE : Hid (xs[k].bs.length ≤ 3000) := Lib.hid (Nat.le_trans (bulk_has hlt) (HR.out (by trivial)).2)
      obtain ⟨c0, c1, c2, c3, c4⟩ := act_at hA
      have HA : Hid (ReadsL .u8 w.heap.size wr xs[k].b xs[k].bs ∧ Bytes255 xs[k].bs ∧ In63 xs[k].d ∧ In64 xs[k].a ∧ In63 xs[k].n ∧ In64 xs[k].v) := Lib.hid hA.2.2.2.2.2
      clear hA hc hbr hv2
      generalize xs[k] = x at *
      go_wp2_with fail
      refine (two_act w wr p q p' q' (3008 * k) 0 x HT.out HA.out.1 HA.out.2.1 HLE.out HA.out.2.2.2.1 HA.out.2.2.2.2.1 HA.out.2.2.2.2.2 (by omega)).mono ?_
      rintro e w6 ⟨rfl, hT2⟩
      have HT2 := Lib.hid hT2
      clear hT2 c0 c1 c2 c3 c4
      go_wp2
      exact ⟨⟨k + 1, by omega, by go_num, by rw [show 3008 * (k + 1) = 3008 * k + 3008 by omega]; exact HT2.out⟩, by simp [intOf]; omega⟩
    · obtain rfl : k = xs.length := by omega
      have HT' := Lib.hid HT.out.swap
      clear hbr HT
      go_wp2_with fail
      go_loopw [22] (fun i wr => ∃ k : Nat, k ≤ ys.length ∧ i = .int .i64 k ∧ Two w p' q' p q (3008 * k) (3008 * xs.length) wr) (fun i _ => ys.length - (intOf i).toNat)
      case atStart => exact ⟨0, Nat.zero_le _, rfl, HT'.out.swap.swap⟩
      case round =>
        obtain ⟨k, hk, rfl, hT⟩ := hrel
        have HT := Lib.hid hT
        have hbr : Below w.heap.size w wr := by obtain ⟨_, _, _, _, h, _⟩ := hT; exact h
        clear hT
        by_cases hlt : k < ys.length
        · obtain ⟨_, _, hv, _, hx⟩ := HM.out.below hbr
          injection hv with hv1 hv2 hv3
          subst hv1 hv3
          rcases hx with hx | ⟨b, off, rfl, hbb, hc⟩
          · rw [hx] at hlt; simp at hlt
          have hA := hc k hlt
          have HLE : Hid (ys[k].bs.length ≤ 3000) := Lib.hid (Nat.le_trans (bulk_has hlt) (HR2.out (by trivial)).2)
          obtain ⟨c0, c1, c2, c3, c4⟩ := act_at hA
          have HA : Hid (ReadsL .u8 w.heap.size wr ys[k].b ys[k].bs ∧ Bytes255 ys[k].bs ∧ In63 ys[k].d ∧ In64 ys[k].a ∧ In63 ys[k].n ∧ In64 ys[k].v) := Lib.hid hA.2.2.2.2.2
          clear hA hc hbr hv2
          generalize ys[k] = x at *
          go_wp2_with fail
          refine (two_act w wr p' q' p q (3008 * k) (3008 * xs.length) x HT.out HA.out.1 HA.out.2.1 HLE.out HA.out.2.2.2.1 HA.out.2.2.2.2.1 HA.out.2.2.2.2.2 (by omega)).mono ?_
          rintro e w6 ⟨rfl, hT2⟩
          have HT2 := Lib.hid hT2
          clear hT2 c0 c1 c2 c3 c4
          go_wp2
          exact ⟨⟨k + 1, by omega, by go_num, by rw [show 3008 * (k + 1) = 3008 * k + 3008 by omega]; exact HT2.out⟩, by simp [intOf]; omega⟩
        · obtain rfl : k = ys.length := by omega
          obtain ⟨T, T2, d, d2, hb0, _, _, _, hD2, hD⟩ := HT.out
          obtain ⟨S, hS⟩ := hD.prog
          obtain ⟨S2, hS2⟩ := hD2.prog
          obtain ⟨G, hG⟩ := hD.ref
          obtain ⟨G2, hG2⟩ := hD2.ref
          have HP1 := Lib.hid hS
          have HP2 := Lib.hid hS2
          have HG1 := Lib.hid hG
          have HG2 := Lib.hid hG2
          have HB := Lib.hid hb0
          clear hbr HT hb0 hD hD2 hS hS2 hG hG2
          go_wp2_with fail
          refine (progSameD HP1.out HP2.out).mono ?_
          rintro e w7 ⟨hb7, r7, rfl, hr7⟩
          have HB7 := Lib.hid hb7
          have HR7 := Lib.hid hr7
          clear hb7 hr7
          go_wp2_with fail
          refine (refSameD (HG1.out.below HB7.out) (HG2.out.below HB7.out)).mono ?_
          rintro e w8 ⟨hb8, r8, rfl, hr8⟩
          obtain rfl : r7 = r8 := by rw [Bool.eq_iff_iff]; exact HR7.out.trans hr8.symm
          have hrr : (r7 == r7) = true := by simp
          have HB8 := Lib.hid (HB7.out.trans (hb8.mono HB7.out.size))
          clear hb8 hr8
          go_wp2_with fail
          refine (progSameD (HP1.out.below HB8.out) (HP1.out.below HB8.out)).mono ?_
          rintro e w9 ⟨hb9, r9, rfl, hr9⟩
          obtain rfl : r9 = true := hr9.2 (SameD.refl _)
          have HB9 := Lib.hid (HB8.out.trans (hb9.mono HB8.out.size))
          clear hb9 hr9
          go_wp2_with fail
          refine (progTwinD (HP2.out.below HB9.out)).mono ?_
          rintro e w10 ⟨hb10, p10, S10, rfl, hP10⟩
          have HP10 := Lib.hid hP10
          have HB10 := Lib.hid (HB9.out.trans (hb10.mono HB9.out.size))
          clear hb10 hP10
          go_wp2_with fail
          refine (progSameD (HP2.out.below HB10.out) HP10.out).mono ?_
          rintro e w11 ⟨hb11, r11, rfl, hr11⟩
          obtain rfl : r11 = true := hr11.2 (SameD.refl _)
          have HB11 := Lib.hid (HB10.out.trans (hb11.mono HB10.out.size))
          clear hb11 hr11
          go_wp2
          go_ret
          exact ⟨rfl, HB.out.trans (HB11.out.mono HB.out.size)⟩

end Go.Proofs.Ytjnnoihdmkiclaa
