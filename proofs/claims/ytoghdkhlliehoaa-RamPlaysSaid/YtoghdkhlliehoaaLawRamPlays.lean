/- The law RamPlays, walked call by call. Written by wip/tools/gen_ramplays.py. -/
import Derived.Test.YtoghdkhlliehoaaPlaysA
import Derived.Test.YtoghdkhlliehoaaActs3
import Derived.Deep.QuietTactic
import Derived.BigQuiet
namespace Go.Proofs.Ytoghdkhlliehoaa
open Go.RowKit
set_option linter.unusedVariables false
set_option maxRecDepth 100000

/-- The k-th act's cells, as the law loads them. -/
theorem act_at {B : Nat} {w : World} {b off k : Nat} {x : ActV} (h : ActAt B w ⟨b, off + k * 5, none⟩ x) :
    w.cell? ⟨b, off + k * 5, none⟩ = some (.int .i64 x.d) ∧ w.cell? ⟨b, off + k * 5 + 1, none⟩ = some (.int .u64 x.a) ∧ w.cell? ⟨b, off + k * 5 + 2, none⟩ = some (.int .i64 x.n) ∧ w.cell? ⟨b, off + k * 5 + 3, none⟩ = some (.int .u64 x.v) ∧ w.cell? ⟨b, off + k * 5 + 4, none⟩ = some x.b := by
  obtain ⟨h0, h1, h2, h3, h4, _⟩ := h
  rw [add_none] at h0 h1 h2 h3 h4
  exact ⟨h0, h1, h2, h3, h4⟩

set_option maxRecDepth 100000 in
set_option maxHeartbeats 4000000 in
theorem ramPlays_walk (a0 a1 : Int) (l : Value) (xs : List ActV) (w : World) (i0 : In64 a0) (i1 : In64 a1) (hl : ActsIn w.heap.size w l xs) (hbl : ∀ i (hi : i < xs.length), xs[i].bs.length ≤ 140737488355328) :
    Calls Try.prog 3 #[.int .u64 a0, .int .u64 a1, l] w fun e w' => e = .returned (.bool true) ∧ Below w.heap.size w w' := by
  have HL := Lib.hid hl
  have HBL := Lib.hid hbl
  obtain ⟨al, cl, rfl, hll, _⟩ := hl
  have hll2 : xs.length ≤ 9223372036854775807 := by unfold maxLen at hll; omega
  clear hbl hll
  go_enter Try.func3, Try.ntmps3
  go_wp2_with fail
  refine (ramAwake_any ram w).mono ?_
  rintro e w1 ⟨rfl, hb⟩
  have HB1 := Lib.hid hb
  clear hb
  go_wp2_with fail
  refine (great_any w.heap.size w1 _ xs (HL.out.below HB1.out) HBL.out).mono ?_
  rintro e w2 ⟨rfl, r, rfl, hr⟩
  have HR := Lib.hid hr
  clear hr
  cases r with
  | true =>
    go_wp2
    go_ret
    exact ⟨rfl, HB1.out⟩
  | false =>
  go_wp2_with fail
  refine (ram.new a0 a1 w1 i0 i1).mono ?_
  rintro e w2 ⟨hb2, hor⟩
  rcases hor with ⟨hn, rfl⟩ | ⟨hn, b, S, rfl, hS, hM⟩
  · have HB2 := Lib.hid hb2
    clear hb2
    go_wp2_with fail
    refine (refNew_any a0 a1 i0 i1 w2).mono ?_
    rintro e w3 hor
    rcases hor with ⟨_, rfl, rfl⟩ | ⟨h0, _⟩
    case inr => rw [hn] at h0; cases h0
    go_wp2_with fail
    go_quiet (fail)
    have HONE : Hid (One w (.pointer none) (.pointer none) 0 _) := Lib.hid (one_none w (w2.drewN nq) (HB1.out.trans ((HB2.out.mono HB1.out.size).trans (bel_drewN _ w2 nq))))
    generalize w2.drewN nq = w9 at *
    obtain ⟨q, hq⟩ : ∃ q : Value, q = .pointer none := ⟨_, rfl⟩
    rw [← hq] at HONE ⊢
    clear hq
    go_wp2_with fail
    go_loopw [7, 11] (fun r i wr => ∃ (k n : Nat) (p : Value), p = r ∧ k ≤ xs.length ∧ i = .int .i64 k ∧ n ≤ 6016 * k ∧ One w p q n wr) (fun _ i _ => xs.length - (intOf i).toNat)
    case atStart => exact ⟨0, 0, _, rfl, Nat.zero_le _, rfl, Nat.zero_le _, HONE.out⟩
    case round =>
      obtain ⟨k, n, p, rfl, hk, rfl, hn, hT⟩ := hrel
      have HT := Lib.hid hT
      have hbr := hT.bel
      clear hT
      by_cases hlt : k < xs.length
      · have hx60 := (HR.out (by trivial)).1
        have hn8 : n < 800000 := by omega
        have hn9 : n + 3008 < 800000 := by omega
        have HN := Lib.hid (show n + 3008 ≤ 6016 * (k + 1) by omega)
        obtain ⟨_, _, hv, _, hx⟩ := HL.out.below hbr
        injection hv with hv1 hv2 hv3
        subst hv1 hv3
        rcases hx with hx | ⟨b, off, rfl, hbb, hc⟩
        · rw [hx] at hlt; simp at hlt
        have hA := hc k hlt
        have HLE : Hid (xs[k].bs.length ≤ 3000) := Lib.hid (Nat.le_trans (bulk_has hlt) (HR.out (by trivial)).2)
        obtain ⟨c0, c1, c2, c3, c4⟩ := act_at hA
        have HA : Hid (ReadsL .u8 w.heap.size wr xs[k].b xs[k].bs ∧ Bytes255 xs[k].bs ∧ In63 xs[k].d ∧ In64 xs[k].a ∧ In63 xs[k].n ∧ In64 xs[k].v) := Lib.hid hA.2.2.2.2.2
        have HBC : Hid (∀ w', Below w.heap.size w w' → w'.cell? ⟨b, off + k * 5, none⟩ = some (.int .i64 xs[k].d) ∧ w'.cell? ⟨b, off + k * 5 + 1, none⟩ = some (.int .u64 xs[k].a) ∧ w'.cell? ⟨b, off + k * 5 + 3, none⟩ = some (.int .u64 xs[k].v)) := Lib.hid fun w' hb' => by
          obtain ⟨_, _, hv, _, hx⟩ := HL.out.below hb'
          rcases hx with hx | ⟨b', off', he, _, hc'⟩
          · rw [hx] at hlt; simp at hlt
          injection hv with hv1 _ _
          rw [he] at hv1
          injection hv1 with hv1; injection hv1 with hv1 hv2
          subst hv1 hv2
          obtain ⟨d0, d1, _, d3, _⟩ := act_at (hc' k hlt)
          exact ⟨d0, d1, d3⟩
        clear hA hc hbr hv2
        generalize xs[k] = x at *
        go_wp2_with fail
        refine (one_act w wr p q n x HT.out HA.out.1 HA.out.2.1 HLE.out HA.out.2.2.2.1 HA.out.2.2.2.2.1 HA.out.2.2.2.2.2 hn8).mono ?_
        rintro e w6 ⟨rfl, hT2⟩
        obtain ⟨e0, e1, e3⟩ := HBC.out _ hT2.bel
        have HT2 := Lib.hid hT2
        clear hT2 c0 c1 c2 c3 c4 HT
        by_cases h5 : x.d = 5
        · have h5z : (x.d == 5) = true := by rw [h5]; rfl
          go_wp2_with fail
          refine (one_twinP HT2.out).mono ?_
          rintro e w7 ⟨p', rfl, hH⟩
          obtain ⟨_, f1, f3⟩ := HBC.out _ hH.bel
          have HH := Lib.hid hH.drew
          clear hH e0 e1 e3 HT2
          have HK : Hid (∀ w9 s m m', Two w p s p' q m m' w9 → w9.cell? ⟨b, off + k * 5 + 1, none⟩ = some (.int .u64 x.a) ∧ w9.cell? ⟨b, off + k * 5 + 3, none⟩ = some (.int .u64 x.v)) := Lib.hid fun w9 s m m' h9 => (HBC.out _ h9.bel).2
          have HK2 : Hid (∀ w9 m, One w p' q m w9 → w9.cell? ⟨b, off + k * 5 + 1, none⟩ = some (.int .u64 x.a) ∧ w9.cell? ⟨b, off + k * 5 + 3, none⟩ = some (.int .u64 x.v)) := Lib.hid fun w9 m h9 => (HBC.out _ h9.bel).2
          go_wp2_with fail
          go_region_held3 (fun wx => wx.cell? ⟨b, off + k * 5 + 1, none⟩ = some (.int .u64 x.a) ∧ wx.cell? ⟨b, off + k * 5 + 3, none⟩ = some (.int .u64 x.v)) (go_keep)
            (first
              | (go_at_call 12; (with_reducible refine (half_twinR HH.out).mono ?_); rintro e w8 ⟨q', rfl, hT8⟩; obtain ⟨g1, g3⟩ := HK.out _ _ _ _ hT8; have HT8 := Lib.hid hT8; clear hT8)
              | (go_at_call 10; (with_reducible refine (old_act w _ p p' q q' _ x.a x.v HT8.out HA.out.2.2.2.1 HA.out.2.2.2.2.2 hn9).mono ?_); rintro e w9 ⟨rfl, hT9⟩; obtain ⟨g1, g3⟩ := HK2.out _ _ hT9; have HT9 := Lib.hid hT9; clear hT9))
          go_wp2
          exact ⟨⟨k + 1, n + 3008, _, rfl, by omega, by go_num, HN.out, HT9.out⟩, by simp [intOf]; omega⟩
        · have h5z : (x.d == 5) = false := by rw [beq_eq_false_iff_ne]; exact h5
          go_wp2
          exact ⟨⟨k + 1, n + 3008, _, rfl, by omega, by go_num, HN.out, HT2.out⟩, by simp [intOf]; omega⟩
      · obtain rfl : k = xs.length := by omega
        obtain ⟨T, _, d, _, _, _, _, _, hD, _⟩ := HT.out
        obtain ⟨S, hS⟩ := hD.prog
        obtain ⟨G, hG⟩ := hD.ref
        have HP := Lib.hid hS
        have HG := Lib.hid hG
        have HB := Lib.hid hbr
        clear hD hS hG hbr HT
        go_wp2_with fail
        refine (pagesP HP.out).mono ?_
        rintro e w1' ⟨hb1, a1, n1, c1, ps, rfl, rfl, hps, hown⟩
        have HW1 := Lib.hid (writU hown rfl)
        have HR1 := Lib.hid (ReadsL.own hown)
        have HS1 := Lib.hid hps
        have HB1 := Lib.hid hb1
        have hpl : ps.length ≤ 9223372036854775807 := by
          obtain ⟨_, _, hv, hm, _⟩ := ReadsL.own hown
          unfold maxLen at hm
          omega
        clear hb1 hps hown
        go_wp2_with fail
        refine (pagesR (HG.out.below HB1.out)).mono ?_
        rintro e w2' ⟨hb2, a2, n2, c2, qs, rfl, rfl, hqs, hown⟩
        obtain rfl := HS1.out.one hqs
        have HR2 := Lib.hid (ReadsL.own hown)
        have HB2 := Lib.hid hb2
        clear hb2 hqs hown
        go_wp2_with fail
        refine (numbers_any _ _ _ _ _ _ ((HR1.out.below HB2.out (Nat.le_refl _)).mono HB2.out.size) HR2.out (Nat.le_refl _)).mono ?_
        rintro e w3' ⟨rfl, hb3⟩
        rw [show decide (ps = ps) = true from decide_eq_true rfl]
        have HB3 := Lib.hid (HB1.out.trans ((HB2.out.mono HB1.out.size).trans (hb3.mono (Nat.le_trans HB1.out.size HB2.out.size))))
        have HW3 := Lib.hid ((HW1.out.below HB2.out).below (hb3))
        clear hb3
        go_wp2_with fail
        go_loopw [14] (fun i wz => ∃ k : Nat, k ≤ ps.length ∧ i = .int .i64 k ∧ Below wr.heap.size wr wz ∧ WritU wz a1 wr.heap.size ps.length) (fun i _ => ps.length - (intOf i).toNat)
        case atStart => exact ⟨0, Nat.zero_le _, rfl, HB3.out, HW3.out⟩
        case round =>
          obtain ⟨k, hk, rfl, hb, hWz⟩ := hrel
          by_cases hlt2 : k < ps.length
          · have HWz := Lib.hid hWz
            rcases hWz with h0 | ⟨g, cur, rfl, hg, hh, hn', hc⟩
            · omega
            obtain ⟨u, hu⟩ := hc k hlt2
            have hcell := (cell_of_row _ g k cur _ _ hh).trans hu
            have hfz := frozen_of_row _ g k cur _ hh
            have HBZ := Lib.hid (hb.setCell (p := ⟨g, k, none⟩) hg (.int .u64 1))
            clear hh hc hu hb
            go_wp2
            exact ⟨⟨k + 1, by omega, by go_num, HBZ.out, HWz.out.set 1⟩, by simp [intOf]; omega⟩
          · obtain rfl : k = ps.length := by omega
            have HBZ := Lib.hid hb
            clear hb hWz
            go_wp2_with fail
            refine (pagesP (HP.out.below HBZ.out)).mono ?_
            rintro e w4' ⟨hb4, a4, n4, c4, ps4, rfl, rfl, hps4, hown⟩
            have HR4 := Lib.hid (ReadsL.own hown)
            have HB4 := Lib.hid hb4
            have HS4 := Lib.hid hps4
            clear hb4 hps4 hown
            go_wp2_with fail
            refine (pagesR ((HG.out.below HBZ.out).below HB4.out)).mono ?_
            rintro e w5' ⟨hb5, a5, n5, c5, qs5, rfl, rfl, hqs5, hown⟩
            obtain rfl := HS4.out.one hqs5
            have HR5 := Lib.hid (ReadsL.own hown)
            have HB5 := Lib.hid hb5
            clear hb5 hqs5 hown
            go_wp2_with fail
            refine (numbers_any _ _ _ _ _ _ ((HR4.out.below HB5.out (Nat.le_refl _)).mono HB5.out.size) HR5.out (Nat.le_refl _)).mono ?_
            rintro e w6' ⟨rfl, hb6⟩
            rw [show decide (ps4 = ps4) = true from decide_eq_true rfl]
            have HB6 := Lib.hid (HBZ.out.trans (((HB4.out.trans ((HB5.out.mono HB4.out.size).trans (hb6.mono (Nat.le_trans HB4.out.size HB5.out.size))))).mono HBZ.out.size))
            clear hb6
            go_wp2
            go_ret
            exact ⟨rfl, HB.out.trans (HB6.out.mono HB.out.size)⟩
  · have hf := newOk_fits i0 hn
    have HM := Lib.hid hM
    have HB2 := Lib.hid hb2
    have HS := Lib.hid hS
    clear hb2 hM hS
    go_wp2_with fail
    refine (refNew_any a0 a1 i0 i1 w2).mono ?_
    rintro e w3 hor
    rcases hor with ⟨h0, _⟩ | ⟨_, rfl, hB3, hR⟩
    · rw [hn] at h0; cases h0
    have HR3 := Lib.hid hR
    have HP3 := Lib.hid (ram.keeps HM.out (Only.of_below (fun _ => False) hB3) (fun _ _ => id))
    have HB3 := Lib.hid hB3
    have HF := Lib.hid hf
    have k0 : w3.cell? ⟨w2.heap.size, 0, none⟩ = some (.int .u64 a0) := by obtain ⟨l, hr, _⟩ := hR; exact hr.base
    have k1 : w3.cell? ⟨w2.heap.size, 1, none⟩ = some (.int .u64 a1) := by obtain ⟨l, hr, _⟩ := hR; exact hr.size
    have z0 : (a0 != a0) = false := by simp
    have z1 : (a1 != a1) = false := by simp
    clear hB3 hR hf
    go_wp2_with fail
    go_quiet (first
      | (go_at_call 8; exact Calls.quiet_of (ram.getBase (ram.keeps HP3.out (Only.of_below (fun _ => False) (bel_drewN _ _ _)) (fun _ _ => id))))
      | (go_at_call 9; exact Calls.quiet_of (ram.getSize (ram.keeps HP3.out (Only.of_below (fun _ => False) (bel_drewN _ _ _)) (fun _ _ => id)))))
    have HONE : Hid (One w (.pointer (some ⟨b, 0, none⟩)) (.pointer (some ⟨w2.heap.size, 0, none⟩)) 0 (w3.drewN nq)) := by
      have s1 := HB1.out.size
      have s2 := HB2.out.size
      obtain ⟨g, hg, hlt, hM2⟩ := HR3.out.norm
      have hl := hM2.lt
      have hge : w2.heap.size ≤ g := by rcases hg with rfl | rfl <;> omega
      have hD : RefD w3 (.pointer (some ⟨w2.heap.size, 0, none⟩)) (fun i => w2.heap.size ≤ i ∧ i < w3.heap.size) 0 (some (a0, a1, fun _ => 0)) := ⟨_, g, rfl, hM2, ⟨Nat.le_refl _, hl⟩, ⟨hge, hlt⟩, hlt⟩
      have hP : ProgD w2 (.pointer (some ⟨b, 0, none⟩)) S (some (a0, a1, fun _ => 0)) := ⟨b, rfl, HM.out, HF.out⟩
      have h1 := one_new (w0 := w) (HB1.out.trans (HB2.out.mono s1)) HB3.out hP (fun i hi => ⟨by have := HS.out i hi; omega, ram.lt HM.out i hi⟩) hD (fun i hi => hi)
      obtain ⟨T, T', d, d', q1, q2, q3, q4, q5, q6⟩ := h1
      have hdr : Below w3.heap.size w3 (w3.drewN nq) := bel_drewN _ w3 nq
      exact Lib.hid ⟨T, T', d, d', q1.trans (hdr.mono q1.size), fun i hi => ⟨(q2 i hi).1, Nat.lt_of_lt_of_le (q2 i hi).2 hdr.size⟩, fun i hi => ⟨(q3 i hi).1, Nat.lt_of_lt_of_le (q3 i hi).2 hdr.size⟩, q4, q5.below hdr, q6.below hdr⟩
    clear k0 k1 HR3 HP3 HB3 HM HS
    generalize w3.drewN nq = w9 at *
    obtain ⟨q, hq⟩ : ∃ q : Value, q = .pointer (some ⟨w2.heap.size, 0, none⟩) := ⟨_, rfl⟩
    rw [← hq] at HONE ⊢
    clear hq
    go_wp2_with fail
    go_loopw [7, 11] (fun r i wr => ∃ (k n : Nat) (p : Value), p = r ∧ k ≤ xs.length ∧ i = .int .i64 k ∧ n ≤ 6016 * k ∧ One w p q n wr) (fun _ i _ => xs.length - (intOf i).toNat)
    case atStart => exact ⟨0, 0, _, rfl, Nat.zero_le _, rfl, Nat.zero_le _, HONE.out⟩
    case round =>
      obtain ⟨k, n, p, rfl, hk, rfl, hn, hT⟩ := hrel
      have HT := Lib.hid hT
      have hbr := hT.bel
      clear hT
      by_cases hlt : k < xs.length
      · have hx60 := (HR.out (by trivial)).1
        have hn8 : n < 800000 := by omega
        have hn9 : n + 3008 < 800000 := by omega
        have HN := Lib.hid (show n + 3008 ≤ 6016 * (k + 1) by omega)
        obtain ⟨_, _, hv, _, hx⟩ := HL.out.below hbr
        injection hv with hv1 hv2 hv3
        subst hv1 hv3
        rcases hx with hx | ⟨b, off, rfl, hbb, hc⟩
        · rw [hx] at hlt; simp at hlt
        have hA := hc k hlt
        have HLE : Hid (xs[k].bs.length ≤ 3000) := Lib.hid (Nat.le_trans (bulk_has hlt) (HR.out (by trivial)).2)
        obtain ⟨c0, c1, c2, c3, c4⟩ := act_at hA
        have HA : Hid (ReadsL .u8 w.heap.size wr xs[k].b xs[k].bs ∧ Bytes255 xs[k].bs ∧ In63 xs[k].d ∧ In64 xs[k].a ∧ In63 xs[k].n ∧ In64 xs[k].v) := Lib.hid hA.2.2.2.2.2
        have HBC : Hid (∀ w', Below w.heap.size w w' → w'.cell? ⟨b, off + k * 5, none⟩ = some (.int .i64 xs[k].d) ∧ w'.cell? ⟨b, off + k * 5 + 1, none⟩ = some (.int .u64 xs[k].a) ∧ w'.cell? ⟨b, off + k * 5 + 3, none⟩ = some (.int .u64 xs[k].v)) := Lib.hid fun w' hb' => by
          obtain ⟨_, _, hv, _, hx⟩ := HL.out.below hb'
          rcases hx with hx | ⟨b', off', he, _, hc'⟩
          · rw [hx] at hlt; simp at hlt
          injection hv with hv1 _ _
          rw [he] at hv1
          injection hv1 with hv1; injection hv1 with hv1 hv2
          subst hv1 hv2
          obtain ⟨d0, d1, _, d3, _⟩ := act_at (hc' k hlt)
          exact ⟨d0, d1, d3⟩
        clear hA hc hbr hv2
        generalize xs[k] = x at *
        go_wp2_with fail
        refine (one_act w wr p q n x HT.out HA.out.1 HA.out.2.1 HLE.out HA.out.2.2.2.1 HA.out.2.2.2.2.1 HA.out.2.2.2.2.2 hn8).mono ?_
        rintro e w6 ⟨rfl, hT2⟩
        obtain ⟨e0, e1, e3⟩ := HBC.out _ hT2.bel
        have HT2 := Lib.hid hT2
        clear hT2 c0 c1 c2 c3 c4 HT
        by_cases h5 : x.d = 5
        · have h5z : (x.d == 5) = true := by rw [h5]; rfl
          go_wp2_with fail
          refine (one_twinP HT2.out).mono ?_
          rintro e w7 ⟨p', rfl, hH⟩
          obtain ⟨_, f1, f3⟩ := HBC.out _ hH.bel
          have HH := Lib.hid hH.drew
          clear hH e0 e1 e3 HT2
          have HK : Hid (∀ w9 s m m', Two w p s p' q m m' w9 → w9.cell? ⟨b, off + k * 5 + 1, none⟩ = some (.int .u64 x.a) ∧ w9.cell? ⟨b, off + k * 5 + 3, none⟩ = some (.int .u64 x.v)) := Lib.hid fun w9 s m m' h9 => (HBC.out _ h9.bel).2
          have HK2 : Hid (∀ w9 m, One w p' q m w9 → w9.cell? ⟨b, off + k * 5 + 1, none⟩ = some (.int .u64 x.a) ∧ w9.cell? ⟨b, off + k * 5 + 3, none⟩ = some (.int .u64 x.v)) := Lib.hid fun w9 m h9 => (HBC.out _ h9.bel).2
          go_wp2_with fail
          go_region_held3 (fun wx => wx.cell? ⟨b, off + k * 5 + 1, none⟩ = some (.int .u64 x.a) ∧ wx.cell? ⟨b, off + k * 5 + 3, none⟩ = some (.int .u64 x.v)) (go_keep)
            (first
              | (go_at_call 12; (with_reducible refine (half_twinR HH.out).mono ?_); rintro e w8 ⟨q', rfl, hT8⟩; obtain ⟨g1, g3⟩ := HK.out _ _ _ _ hT8; have HT8 := Lib.hid hT8; clear hT8)
              | (go_at_call 10; (with_reducible refine (old_act w _ p p' q q' _ x.a x.v HT8.out HA.out.2.2.2.1 HA.out.2.2.2.2.2 hn9).mono ?_); rintro e w9 ⟨rfl, hT9⟩; obtain ⟨g1, g3⟩ := HK2.out _ _ hT9; have HT9 := Lib.hid hT9; clear hT9))
          go_wp2
          exact ⟨⟨k + 1, n + 3008, _, rfl, by omega, by go_num, HN.out, HT9.out⟩, by simp [intOf]; omega⟩
        · have h5z : (x.d == 5) = false := by rw [beq_eq_false_iff_ne]; exact h5
          go_wp2
          exact ⟨⟨k + 1, n + 3008, _, rfl, by omega, by go_num, HN.out, HT2.out⟩, by simp [intOf]; omega⟩
      · obtain rfl : k = xs.length := by omega
        obtain ⟨T, _, d, _, _, _, _, _, hD, _⟩ := HT.out
        obtain ⟨S, hS⟩ := hD.prog
        obtain ⟨G, hG⟩ := hD.ref
        have HP := Lib.hid hS
        have HG := Lib.hid hG
        have HB := Lib.hid hbr
        clear hD hS hG hbr HT
        go_wp2_with fail
        refine (pagesP HP.out).mono ?_
        rintro e w1' ⟨hb1, a1, n1, c1, ps, rfl, rfl, hps, hown⟩
        have HW1 := Lib.hid (writU hown rfl)
        have HR1 := Lib.hid (ReadsL.own hown)
        have HS1 := Lib.hid hps
        have HB1 := Lib.hid hb1
        have hpl : ps.length ≤ 9223372036854775807 := by
          obtain ⟨_, _, hv, hm, _⟩ := ReadsL.own hown
          unfold maxLen at hm
          omega
        clear hb1 hps hown
        go_wp2_with fail
        refine (pagesR (HG.out.below HB1.out)).mono ?_
        rintro e w2' ⟨hb2, a2, n2, c2, qs, rfl, rfl, hqs, hown⟩
        obtain rfl := HS1.out.one hqs
        have HR2 := Lib.hid (ReadsL.own hown)
        have HB2 := Lib.hid hb2
        clear hb2 hqs hown
        go_wp2_with fail
        refine (numbers_any _ _ _ _ _ _ ((HR1.out.below HB2.out (Nat.le_refl _)).mono HB2.out.size) HR2.out (Nat.le_refl _)).mono ?_
        rintro e w3' ⟨rfl, hb3⟩
        rw [show decide (ps = ps) = true from decide_eq_true rfl]
        have HB3 := Lib.hid (HB1.out.trans ((HB2.out.mono HB1.out.size).trans (hb3.mono (Nat.le_trans HB1.out.size HB2.out.size))))
        have HW3 := Lib.hid ((HW1.out.below HB2.out).below (hb3))
        clear hb3
        go_wp2_with fail
        go_loopw [14] (fun i wz => ∃ k : Nat, k ≤ ps.length ∧ i = .int .i64 k ∧ Below wr.heap.size wr wz ∧ WritU wz a1 wr.heap.size ps.length) (fun i _ => ps.length - (intOf i).toNat)
        case atStart => exact ⟨0, Nat.zero_le _, rfl, HB3.out, HW3.out⟩
        case round =>
          obtain ⟨k, hk, rfl, hb, hWz⟩ := hrel
          by_cases hlt2 : k < ps.length
          · have HWz := Lib.hid hWz
            rcases hWz with h0 | ⟨g, cur, rfl, hg, hh, hn', hc⟩
            · omega
            obtain ⟨u, hu⟩ := hc k hlt2
            have hcell := (cell_of_row _ g k cur _ _ hh).trans hu
            have hfz := frozen_of_row _ g k cur _ hh
            have HBZ := Lib.hid (hb.setCell (p := ⟨g, k, none⟩) hg (.int .u64 1))
            clear hh hc hu hb
            go_wp2
            exact ⟨⟨k + 1, by omega, by go_num, HBZ.out, HWz.out.set 1⟩, by simp [intOf]; omega⟩
          · obtain rfl : k = ps.length := by omega
            have HBZ := Lib.hid hb
            clear hb hWz
            go_wp2_with fail
            refine (pagesP (HP.out.below HBZ.out)).mono ?_
            rintro e w4' ⟨hb4, a4, n4, c4, ps4, rfl, rfl, hps4, hown⟩
            have HR4 := Lib.hid (ReadsL.own hown)
            have HB4 := Lib.hid hb4
            have HS4 := Lib.hid hps4
            clear hb4 hps4 hown
            go_wp2_with fail
            refine (pagesR ((HG.out.below HBZ.out).below HB4.out)).mono ?_
            rintro e w5' ⟨hb5, a5, n5, c5, qs5, rfl, rfl, hqs5, hown⟩
            obtain rfl := HS4.out.one hqs5
            have HR5 := Lib.hid (ReadsL.own hown)
            have HB5 := Lib.hid hb5
            clear hb5 hqs5 hown
            go_wp2_with fail
            refine (numbers_any _ _ _ _ _ _ ((HR4.out.below HB5.out (Nat.le_refl _)).mono HB5.out.size) HR5.out (Nat.le_refl _)).mono ?_
            rintro e w6' ⟨rfl, hb6⟩
            rw [show decide (ps4 = ps4) = true from decide_eq_true rfl]
            have HB6 := Lib.hid (HBZ.out.trans (((HB4.out.trans ((HB5.out.mono HB4.out.size).trans (hb6.mono (Nat.le_trans HB4.out.size HB5.out.size))))).mono HBZ.out.size))
            clear hb6
            go_wp2
            go_ret
            exact ⟨rfl, HB.out.trans (HB6.out.mono HB.out.size)⟩

end Go.Proofs.Ytoghdkhlliehoaa
