/- The law ClintPlays where it does not begin from the zero clint: walked call by call. -/
import Derived.Test.YtpmlcnhkfnmheaaClTwo
namespace Go.Proofs.Ytpmlcnhkfnmheaa
open Go.RowKit
set_option linter.unusedVariables false

set_option maxRecDepth 100000 in
set_option maxHeartbeats 8000000 in
theorem clintPlays_false (l : Value) (xs : List ActV) (w : World) (hl : ActsIn w.heap.size w l xs) :
    Calls Try.prog 4 #[l, .bool false] w fun e w' => e = .returned (.bool true) ∧ Below w.heap.size w w' := by
  have HL := Lib.hid hl
  obtain ⟨al, cl, rfl, hll, _⟩ := hl
  have hll2 : xs.length ≤ 9223372036854775807 := by unfold maxLen at hll; omega
  clear hll
  by_cases hx : 200 < xs.length
  · have hd : decide ((200 : Int) < (xs.length : Int)) = true := by rw [decide_eq_true_eq]; omega
    go_enter Try.func4, Try.ntmps4
    go_wp2_with fail
    refine (awake_any _).mono ?_
    rintro e w1 ⟨rfl, hb⟩
    have HB := Lib.hid hb
    clear hb
    go_wp2
    go_ret
    exact ⟨rfl, HB.out⟩
  have hd : decide ((200 : Int) < (xs.length : Int)) = false := by rw [decide_eq_false_iff_not]; omega
  clear hx
  go_enter Try.func4, Try.ntmps4
  go_wp2_with fail
  refine (awake_any _).mono ?_
  rintro e w1 ⟨rfl, hb⟩
  have HB := Lib.hid hb
  clear hb
  go_wp2_with fail
  refine (new_is _).mono ?_
  rintro e w2 ⟨rfl, hb⟩
  have HB2 := Lib.hid (HB.out.trans (hb.mono HB.out.size))
  clear hb HB
  go_wp2_with fail
  have PC := Lib.hid (prog_made w2)
  have HB3 := Lib.hid (HB2.out.alloc HB2.out.size (.cells #[.bool false, .int .u64 18446744073709551615, .int .u64 0] 26))
  have gc := HB2.out.size
  have sc : w2.heap.size < (w2.alloc (.cells #[.bool false, .int .u64 18446744073709551615, .int .u64 0] 26)).heap.size := by rw [World.size_alloc]; omega
  clear HB2
  generalize w2.alloc (.cells #[.bool false, .int .u64 18446744073709551615, .int .u64 0] 26) = w3 at *
  generalize w2.heap.size = c at *
  refine (refNew_is _).mono ?_
  rintro e w4 ⟨rfl, hb⟩
  have HB4 := Lib.hid (HB3.out.trans (hb.mono HB3.out.size))
  replace PC := Lib.hid (PC.out.below hb)
  have sc4 := Nat.lt_of_lt_of_le sc hb.size
  clear hb HB3 sc
  have HF : Hid (Pr w (w4.alloc (.cells #[.int .u64 0, .int .u64 18446744073709551615, .int .u64 0] 37)) c w4.heap.size t0 t0) := by
    have k := ((Below.refl w4.heap.size w4).alloc (Nat.le_refl _) (.cells #[.int .u64 0, .int .u64 18446744073709551615, .int .u64 0] 37))
    have gd := HB4.out.size
    exact Lib.hid ⟨HB4.out.alloc HB4.out.size _, gc, gd, by omega, PC.out.below k, ref_made w4⟩
  clear PC HB4 gc sc4
  go_wp2_with fail
  generalize w4.alloc (.cells #[.int .u64 0, .int .u64 18446744073709551615, .int .u64 0] 37) = w5 at *
  generalize w4.heap.size = d at *
  go_loopw [7] (fun i wr => ∃ k : Nat, k ≤ xs.length ∧ i = .int .i64 k ∧ ∃ t, Pr w wr c d t t) (fun i _ => xs.length - (intOf i).toNat)
  case atStart => exact ⟨0, Nat.zero_le _, rfl, _, HF.out⟩
  case round =>
    obtain ⟨k, hk, rfl, t, hT⟩ := hrel
    have HT := Lib.hid hT
    have hbr := hT.bel
    clear hT HF
    by_cases hlt : k < xs.length
    · obtain ⟨_, _, hv, _, hx⟩ := HL.out.below hbr
      injection hv with hv1 hv2 hv3
      subst hv1 hv3
      rcases hx with hx | ⟨bb, off, rfl, hbb, hc⟩
      · rw [hx] at hlt; simp at hlt
      obtain ⟨c0, c1, c2, c3, r0, r1, r2, r3⟩ := act_at (hc k hlt)
      have R1 := Lib.hid r1
      have R3 := Lib.hid r3
      clear hc hbr hv2 r0 r1 r2 r3
      generalize xs[k] = x at *
      obtain ⟨xd, xa, xn, xv⟩ := x
      simp only at c0 c1 c2 c3
      have HTO := HT
      have HB0 := Lib.hid HT.out.bel
      by_cases d0 : xd = 0
      · subst d0
        go_wp2_with fail
        have X : (wr.alloc (.cells #[.int .i64 0, .int .u64 xa, .int .i64 xn, .int .u64 xv] 40)).heap[wr.heap.size]? = some (.cells #[.int .i64 0, .int .u64 xa, .int .i64 xn, .int .u64 xv] 40 (0, 0)) := heap_alloc_new wr _
        replace HT := Lib.hid (HT.out.below ((Below.refl _ _).alloc (Nat.le_refl _) (.cells #[.int .i64 0, .int .u64 xa, .int .i64 xn, .int .u64 xv] 40)))
        have gx := HB0.out.size
        clear c0 c1 c2 c3
        have hxc : ¬ wr.heap.size = c := by have := HTO.out.pc.lt; omega
        have hxd : ¬ wr.heap.size = d := by have := HTO.out.rd.lt; omega
        clear HTO HB0
        generalize wr.alloc (.cells #[.int .i64 0, .int .u64 xa, .int .i64 xn, .int .u64 xv] 40) = wx at *
        generalize wr.heap.size = g at *
        have x1 : wx.cell? ⟨g, 1, none⟩ = some (.int .u64 xa) := by rw [cell_of_row wx g _ _ _ _ X]; rfl
        have x2 : wx.cell? ⟨g, 2, none⟩ = some (.int .i64 xn) := by rw [cell_of_row wx g _ _ _ _ X]; rfl
        have x3 : wx.cell? ⟨g, 3, none⟩ = some (.int .u64 xv) := by rw [cell_of_row wx g _ _ _ _ X]; rfl
        clear X
        (with_reducible refine (write_any wx c t HT.out.pc xa xn xv R1.out R3.out).mono ?_)
        rintro e w11 ⟨rfl, ho, hp⟩
        replace HT := Lib.hid (HT.out.turnC ho hp)
        have y1 := ho.cell hxc x1
        have y2 := ho.cell hxc x2
        have y3 := ho.cell hxc x3
        clear ho hp x1 x2 x3
        go_wp2_with fail
        (with_reducible refine (refWrite_any w11 d t xa xn xv HT.out.rd R3.out).mono ?_)
        rintro e w12 ⟨rfl, ho, hp⟩
        replace HT := Lib.hid (HT.out.turnD ho hp)
        clear ho hp y1 y2 y3
        generalize wrC t xv (kindC xa xn) = t2 at *
        generalize okC xa xn = ok at *
        obtain ⟨s, n0, n1⟩ := t2
        obtain ⟨p0, p1, p2⟩ := HT.out.pc.cells
        obtain ⟨q0, q1, q2⟩ := HT.out.rd.cells
        simp only at p0 p1 p2 q0 q1 q2
        obtain ⟨r, hr⟩ : ∃ r, mtC ⟨s, n0, n1⟩ = r := ⟨_, rfl⟩
        have HR := Lib.hid hr
        have HR2 : Hid (mtC ⟨false, n0, n1⟩ = r) := Lib.hid hr
        clear hr
        go_wp2_with fail
        go_region_held3 (fun w' => w'.cell? ⟨c, 0, none⟩ = some (.bool s) ∧ w'.cell? ⟨c, 1, none⟩ = some (.int .u64 n0) ∧ w'.cell? ⟨c, 2, none⟩ = some (.int .u64 n1) ∧ w'.cell? ⟨d, 0, none⟩ = some (.int .u64 (sI s)) ∧ w'.cell? ⟨d, 1, none⟩ = some (.int .u64 n0) ∧ w'.cell? ⟨d, 2, none⟩ = some (.int .u64 n1)) (go_keep)
          (first
            | (go_at_call 15; refine (time_is _ _ _).mono ?_; rintro e v1 ⟨rfl, hb⟩; have H1 := Lib.hid (HT.out.below (((Below.refl _ _).drew).trans hb)); have ⟨a0, a1, a2⟩ := H1.out.pc.cells; have ⟨b0, b1, b2⟩ := H1.out.rd.cells; simp only at a0 a1 a2 b0 b1 b2; clear hb)
            | (go_at_call 11; refine (msip_is _ _ _ _).mono ?_; rintro e v2 ⟨rfl, hb⟩; have H2 := Lib.hid (H1.out.below hb); have ⟨a0, a1, a2⟩ := H2.out.pc.cells; have ⟨b0, b1, b2⟩ := H2.out.rd.cells; simp only at a0 a1 a2 b0 b1 b2; clear hb)
            | (go_at_call 20; refine (refMsip_is _ _ _ _).mono ?_; rintro e v3 ⟨rfl, hb⟩; have H3 := Lib.hid (H2.out.below hb); have ⟨a0, a1, a2⟩ := H3.out.pc.cells; have ⟨b0, b1, b2⟩ := H3.out.rd.cells; simp only at a0 a1 a2 b0 b1 b2; clear hb)
            | (go_at_call 10; refine (mtip_is _ false _ _ r HR2.out).mono ?_; rintro e v4 ⟨rfl, hb⟩; have H4 := Lib.hid (H3.out.below hb); have ⟨a0, a1, a2⟩ := H4.out.pc.cells; have ⟨b0, b1, b2⟩ := H4.out.rd.cells; simp only at a0 a1 a2 b0 b1 b2; clear hb)
            | (go_at_call 21; refine (refMtip_is _ _ _ _ r HR.out).mono ?_; rintro e v5 ⟨rfl, hb⟩; have H5 := Lib.hid (H4.out.below hb); have ⟨a0, a1, a2⟩ := H5.out.pc.cells; have ⟨b0, b1, b2⟩ := H5.out.rd.cells; simp only at a0 a1 a2 b0 b1 b2; clear hb))
        go_wp2
        exact ⟨⟨k + 1, by omega, by go_num, _, H5.out⟩, by simp [intOf]; omega⟩
      have e0 := ne_bool d0
      clear d0
      by_cases d1 : xd = 1
      · subst d1
        clear e0
        obtain ⟨s, n0, n1⟩ := t
        have HOK := Lib.hid HT.out.pc.2
        obtain ⟨p0, p1, p2⟩ := HT.out.pc.cells
        obtain ⟨q0, q1, q2⟩ := HT.out.rd.cells
        have z0 := fun o => cell_alloc p0 o
        have z1 := fun o => cell_alloc p1 o
        have z2 := fun o => cell_alloc p2 o
        clear p0 p1 p2 q0 q1 q2
        simp only at z0 z1 z2
        go_wp2_with fail
        have X : (wr.alloc (.cells #[.int .i64 1, .int .u64 xa, .int .i64 xn, .int .u64 xv] 40)).heap[wr.heap.size]? = some (.cells #[.int .i64 1, .int .u64 xa, .int .i64 xn, .int .u64 xv] 40 (0, 0)) := heap_alloc_new wr _
        replace HT := Lib.hid (HT.out.below ((Below.refl _ _).alloc (Nat.le_refl _) (.cells #[.int .i64 1, .int .u64 xa, .int .i64 xn, .int .u64 xv] 40)))
        have gx := HB0.out.size
        clear c0 c1 c2 c3
        have hxc : ¬ wr.heap.size = c := by have := HTO.out.pc.lt; omega
        have hxd : ¬ wr.heap.size = d := by have := HTO.out.rd.lt; omega
        clear HTO HB0
        generalize wr.alloc (.cells #[.int .i64 1, .int .u64 xa, .int .i64 xn, .int .u64 xv] 40) = wx at *
        generalize wr.heap.size = g at *
        have x1 : wx.cell? ⟨g, 1, none⟩ = some (.int .u64 xa) := by rw [cell_of_row wx g _ _ _ _ X]; rfl
        have x2 : wx.cell? ⟨g, 2, none⟩ = some (.int .i64 xn) := by rw [cell_of_row wx g _ _ _ _ X]; rfl
        have x3 : wx.cell? ⟨g, 3, none⟩ = some (.int .u64 xv) := by rw [cell_of_row wx g _ _ _ _ X]; rfl
        clear X z0 z1 z2
        obtain ⟨X, hX⟩ : ∃ X, rdC ⟨s, n0, n1⟩ (kindC xa xn) = X := ⟨_, rfl⟩
        obtain ⟨ok, hok⟩ : ∃ ok, okC xa xn = ok := ⟨_, rfl⟩
        have HX := Lib.hid hX
        have HK := Lib.hid hok
        clear hX hok
        (with_reducible refine (read_is wx s n0 n1 xa xn X ok HOK.out R1.out HX.out HK.out).mono ?_)
        rintro e w11 ⟨rfl, hb⟩
        replace HT := Lib.hid (HT.out.below hb)
        have y1 := (hb.cell (p := ⟨g, 1, none⟩) (block_lt x1)).trans x1
        have y2 := (hb.cell (p := ⟨g, 2, none⟩) (block_lt x2)).trans x2
        clear hb x1 x2 x3
        obtain ⟨q0, q1, q2⟩ := HT.out.rd.cells
        simp only at q0 q1 q2
        go_wp2_with fail
        (with_reducible refine (refRead_is w11 s n0 n1 xa xn X ok HOK.out HX.out HK.out).mono ?_)
        rintro e w12 ⟨rfl, hb⟩
        replace HT := Lib.hid (HT.out.below hb)
        clear hb y1 y2 q0 q1 q2
        obtain ⟨t2, ht2⟩ : ∃ t2 : Cl, t2 = ⟨s, n0, n1⟩ := ⟨_, rfl⟩
        rw [← ht2] at HT
        clear HOK HX
        subst ht2
        obtain ⟨p0, p1, p2⟩ := HT.out.pc.cells
        obtain ⟨q0, q1, q2⟩ := HT.out.rd.cells
        simp only at p0 p1 p2 q0 q1 q2
        obtain ⟨r, hr⟩ : ∃ r, mtC ⟨s, n0, n1⟩ = r := ⟨_, rfl⟩
        have HR := Lib.hid hr
        have HR2 : Hid (mtC ⟨false, n0, n1⟩ = r) := Lib.hid hr
        clear hr
        go_wp2_with fail
        go_region_held3 (fun w' => w'.cell? ⟨c, 0, none⟩ = some (.bool s) ∧ w'.cell? ⟨c, 1, none⟩ = some (.int .u64 n0) ∧ w'.cell? ⟨c, 2, none⟩ = some (.int .u64 n1) ∧ w'.cell? ⟨d, 0, none⟩ = some (.int .u64 (sI s)) ∧ w'.cell? ⟨d, 1, none⟩ = some (.int .u64 n0) ∧ w'.cell? ⟨d, 2, none⟩ = some (.int .u64 n1)) (go_keep)
          (first
            | (go_at_call 15; refine (time_is _ _ _).mono ?_; rintro e v1 ⟨rfl, hb⟩; have H1 := Lib.hid (HT.out.below (((Below.refl _ _).drew).trans hb)); have ⟨a0, a1, a2⟩ := H1.out.pc.cells; have ⟨b0, b1, b2⟩ := H1.out.rd.cells; simp only at a0 a1 a2 b0 b1 b2; clear hb)
            | (go_at_call 11; refine (msip_is _ _ _ _).mono ?_; rintro e v2 ⟨rfl, hb⟩; have H2 := Lib.hid (H1.out.below hb); have ⟨a0, a1, a2⟩ := H2.out.pc.cells; have ⟨b0, b1, b2⟩ := H2.out.rd.cells; simp only at a0 a1 a2 b0 b1 b2; clear hb)
            | (go_at_call 20; refine (refMsip_is _ _ _ _).mono ?_; rintro e v3 ⟨rfl, hb⟩; have H3 := Lib.hid (H2.out.below hb); have ⟨a0, a1, a2⟩ := H3.out.pc.cells; have ⟨b0, b1, b2⟩ := H3.out.rd.cells; simp only at a0 a1 a2 b0 b1 b2; clear hb)
            | (go_at_call 10; refine (mtip_is _ false _ _ r HR2.out).mono ?_; rintro e v4 ⟨rfl, hb⟩; have H4 := Lib.hid (H3.out.below hb); have ⟨a0, a1, a2⟩ := H4.out.pc.cells; have ⟨b0, b1, b2⟩ := H4.out.rd.cells; simp only at a0 a1 a2 b0 b1 b2; clear hb)
            | (go_at_call 21; refine (refMtip_is _ _ _ _ r HR.out).mono ?_; rintro e v5 ⟨rfl, hb⟩; have H5 := Lib.hid (H4.out.below hb); have ⟨a0, a1, a2⟩ := H5.out.pc.cells; have ⟨b0, b1, b2⟩ := H5.out.rd.cells; simp only at a0 a1 a2 b0 b1 b2; clear hb))
        go_wp2
        exact ⟨⟨k + 1, by omega, by go_num, _, H5.out⟩, by simp [intOf]; omega⟩
      have e1 := ne_bool d1
      clear d1
      by_cases d2 : xd = 2
      · subst d2
        clear e0 e1
        go_wp2_with fail
        have X : (wr.alloc (.cells #[.int .i64 2, .int .u64 xa, .int .i64 xn, .int .u64 xv] 40)).heap[wr.heap.size]? = some (.cells #[.int .i64 2, .int .u64 xa, .int .i64 xn, .int .u64 xv] 40 (0, 0)) := heap_alloc_new wr _
        replace HT := Lib.hid (HT.out.below ((Below.refl _ _).alloc (Nat.le_refl _) (.cells #[.int .i64 2, .int .u64 xa, .int .i64 xn, .int .u64 xv] 40)))
        have gx := HB0.out.size
        clear c0 c1 c2 c3
        have hxc : ¬ wr.heap.size = c := by have := HTO.out.pc.lt; omega
        have hxd : ¬ wr.heap.size = d := by have := HTO.out.rd.lt; omega
        clear HTO HB0
        generalize wr.alloc (.cells #[.int .i64 2, .int .u64 xa, .int .i64 xn, .int .u64 xv] 40) = wx at *
        generalize wr.heap.size = g at *
        have x1 : wx.cell? ⟨g, 1, none⟩ = some (.int .u64 xa) := by rw [cell_of_row wx g _ _ _ _ X]; rfl
        have x2 : wx.cell? ⟨g, 2, none⟩ = some (.int .i64 xn) := by rw [cell_of_row wx g _ _ _ _ X]; rfl
        have x3 : wx.cell? ⟨g, 3, none⟩ = some (.int .u64 xv) := by rw [cell_of_row wx g _ _ _ _ X]; rfl
        clear X
        (with_reducible refine (tick_any wx c t HT.out.pc xv R3.out).mono ?_)
        rintro e w11 ⟨hu, ho, hp⟩
        obtain ⟨u1, rfl⟩ := hu
        replace HT := Lib.hid (HT.out.turnC ho hp)
        have y3 := ho.cell hxc x3
        clear ho hp x1 x2 x3
        go_wp2_with fail
        (with_reducible refine (refTick_any w11 d t xv HT.out.rd R3.out).mono ?_)
        rintro e w12 ⟨hu, ho, hp⟩
        obtain ⟨u2, rfl⟩ := hu
        replace HT := Lib.hid (HT.out.turnD ho hp)
        clear ho hp y3
        generalize tickC t xv = t2 at *
        obtain ⟨s, n0, n1⟩ := t2
        obtain ⟨p0, p1, p2⟩ := HT.out.pc.cells
        obtain ⟨q0, q1, q2⟩ := HT.out.rd.cells
        simp only at p0 p1 p2 q0 q1 q2
        obtain ⟨r, hr⟩ : ∃ r, mtC ⟨s, n0, n1⟩ = r := ⟨_, rfl⟩
        have HR := Lib.hid hr
        have HR2 : Hid (mtC ⟨false, n0, n1⟩ = r) := Lib.hid hr
        clear hr
        go_wp2_with fail
        go_region_held3 (fun w' => w'.cell? ⟨c, 0, none⟩ = some (.bool s) ∧ w'.cell? ⟨c, 1, none⟩ = some (.int .u64 n0) ∧ w'.cell? ⟨c, 2, none⟩ = some (.int .u64 n1) ∧ w'.cell? ⟨d, 0, none⟩ = some (.int .u64 (sI s)) ∧ w'.cell? ⟨d, 1, none⟩ = some (.int .u64 n0) ∧ w'.cell? ⟨d, 2, none⟩ = some (.int .u64 n1)) (go_keep)
          (first
            | (go_at_call 15; refine (time_is _ _ _).mono ?_; rintro e v1 ⟨rfl, hb⟩; have H1 := Lib.hid (HT.out.below (((Below.refl _ _).drew).trans hb)); have ⟨a0, a1, a2⟩ := H1.out.pc.cells; have ⟨b0, b1, b2⟩ := H1.out.rd.cells; simp only at a0 a1 a2 b0 b1 b2; clear hb)
            | (go_at_call 11; refine (msip_is _ _ _ _).mono ?_; rintro e v2 ⟨rfl, hb⟩; have H2 := Lib.hid (H1.out.below hb); have ⟨a0, a1, a2⟩ := H2.out.pc.cells; have ⟨b0, b1, b2⟩ := H2.out.rd.cells; simp only at a0 a1 a2 b0 b1 b2; clear hb)
            | (go_at_call 20; refine (refMsip_is _ _ _ _).mono ?_; rintro e v3 ⟨rfl, hb⟩; have H3 := Lib.hid (H2.out.below hb); have ⟨a0, a1, a2⟩ := H3.out.pc.cells; have ⟨b0, b1, b2⟩ := H3.out.rd.cells; simp only at a0 a1 a2 b0 b1 b2; clear hb)
            | (go_at_call 10; refine (mtip_is _ false _ _ r HR2.out).mono ?_; rintro e v4 ⟨rfl, hb⟩; have H4 := Lib.hid (H3.out.below hb); have ⟨a0, a1, a2⟩ := H4.out.pc.cells; have ⟨b0, b1, b2⟩ := H4.out.rd.cells; simp only at a0 a1 a2 b0 b1 b2; clear hb)
            | (go_at_call 21; refine (refMtip_is _ _ _ _ r HR.out).mono ?_; rintro e v5 ⟨rfl, hb⟩; have H5 := Lib.hid (H4.out.below hb); have ⟨a0, a1, a2⟩ := H5.out.pc.cells; have ⟨b0, b1, b2⟩ := H5.out.rd.cells; simp only at a0 a1 a2 b0 b1 b2; clear hb))
        go_wp2
        exact ⟨⟨k + 1, by omega, by go_num, _, H5.out⟩, by simp [intOf]; omega⟩
      have e2 := ne_bool d2
      clear d2
      by_cases d3 : xd = 3
      · subst d3
        clear e0 e1 e2
        obtain ⟨s, n0, n1⟩ := t
        obtain ⟨p0, p1, p2⟩ := HT.out.pc.cells
        have z0 := fun o => cell_alloc p0 o
        have z1 := fun o => cell_alloc p1 o
        have z2 := fun o => cell_alloc p2 o
        clear p0 p1 p2
        simp only at z0 z1 z2
        go_wp2_with fail
        have PO : Hid (ProgC ((wr.alloc (.cells #[.int .i64 3, .int .u64 xa, .int .i64 xn, .int .u64 xv] 40)).alloc (.cells #[.bool s, .int .u64 n0, .int .u64 n1] 26)) (wr.heap.size + 1) ⟨s, n0, n1⟩) := by
          have k := heap_alloc_new (wr.alloc (.cells #[.int .i64 3, .int .u64 xa, .int .i64 xn, .int .u64 xv] 40)) (.cells #[.bool s, .int .u64 n0, .int .u64 n1] 26)
          rw [World.size_alloc] at k
          exact Lib.hid ⟨k, HT.out.pc.2⟩
        replace HT := Lib.hid ((HT.out.below ((Below.refl _ _).alloc (Nat.le_refl _) (.cells #[.int .i64 3, .int .u64 xa, .int .i64 xn, .int .u64 xv] 40))).below ((Below.refl _ _).alloc (Nat.le_refl _) (.cells #[.bool s, .int .u64 n0, .int .u64 n1] 26)))
        have gx : w.heap.size ≤ wr.heap.size + 1 := by have := HB0.out.size; omega
        have hxc : ¬ c = wr.heap.size + 1 := by have := HTO.out.pc.lt; omega
        have hxd : ¬ d = wr.heap.size + 1 := by have := HTO.out.rd.lt; omega
        clear HTO HB0 z0 z1 z2 c0 c1 c2 c3
        generalize (wr.alloc (.cells #[.int .i64 3, .int .u64 xa, .int .i64 xn, .int .u64 xv] 40)).alloc (.cells #[.bool s, .int .u64 n0, .int .u64 n1] 26) = wx at *
        generalize wr.heap.size + 1 = g at *
        have hwt : wrC ⟨s, n0, n1⟩ xv (kindC 16384 8) = ⟨s, xv, n1⟩ := rfl
        have HW := Lib.hid hwt
        clear hwt
        (with_reducible refine (write_is wx g ⟨s, n0, n1⟩ ⟨s, xv, n1⟩ 16384 8 xv true PO.out (by unfold In64; decide) R3.out HW.out (by decide)).mono ?_)
        rintro e w11 ⟨rfl, ho, hp⟩
        replace HT := Lib.hid (HT.out.aside ho (by rintro i rfl; exact gx) hxc hxd)
        have HP := Lib.hid hp
        clear ho hp PO HW
        go_wp2_with fail
        (with_reducible refine (tick_any w11 g ⟨s, xv, n1⟩ HP.out 1 (by unfold In64; decide)).mono ?_)
        rintro e w12 ⟨hu, ho, hp⟩
        obtain ⟨u1, rfl⟩ := hu
        replace HT := Lib.hid (HT.out.aside ho (by rintro i rfl; exact gx) hxc hxd)
        clear ho hp HP
        obtain ⟨t2, ht2⟩ : ∃ t2 : Cl, t2 = ⟨s, n0, n1⟩ := ⟨_, rfl⟩
        rw [← ht2] at HT
        subst ht2
        obtain ⟨p0, p1, p2⟩ := HT.out.pc.cells
        obtain ⟨q0, q1, q2⟩ := HT.out.rd.cells
        simp only at p0 p1 p2 q0 q1 q2
        obtain ⟨r, hr⟩ : ∃ r, mtC ⟨s, n0, n1⟩ = r := ⟨_, rfl⟩
        have HR := Lib.hid hr
        have HR2 : Hid (mtC ⟨false, n0, n1⟩ = r) := Lib.hid hr
        clear hr
        go_wp2_with fail
        go_region_held3 (fun w' => w'.cell? ⟨c, 0, none⟩ = some (.bool s) ∧ w'.cell? ⟨c, 1, none⟩ = some (.int .u64 n0) ∧ w'.cell? ⟨c, 2, none⟩ = some (.int .u64 n1) ∧ w'.cell? ⟨d, 0, none⟩ = some (.int .u64 (sI s)) ∧ w'.cell? ⟨d, 1, none⟩ = some (.int .u64 n0) ∧ w'.cell? ⟨d, 2, none⟩ = some (.int .u64 n1)) (go_keep)
          (first
            | (go_at_call 15; refine (time_is _ _ _).mono ?_; rintro e v1 ⟨rfl, hb⟩; have H1 := Lib.hid (HT.out.below (((Below.refl _ _).drew).trans hb)); have ⟨a0, a1, a2⟩ := H1.out.pc.cells; have ⟨b0, b1, b2⟩ := H1.out.rd.cells; simp only at a0 a1 a2 b0 b1 b2; clear hb)
            | (go_at_call 11; refine (msip_is _ _ _ _).mono ?_; rintro e v2 ⟨rfl, hb⟩; have H2 := Lib.hid (H1.out.below hb); have ⟨a0, a1, a2⟩ := H2.out.pc.cells; have ⟨b0, b1, b2⟩ := H2.out.rd.cells; simp only at a0 a1 a2 b0 b1 b2; clear hb)
            | (go_at_call 20; refine (refMsip_is _ _ _ _).mono ?_; rintro e v3 ⟨rfl, hb⟩; have H3 := Lib.hid (H2.out.below hb); have ⟨a0, a1, a2⟩ := H3.out.pc.cells; have ⟨b0, b1, b2⟩ := H3.out.rd.cells; simp only at a0 a1 a2 b0 b1 b2; clear hb)
            | (go_at_call 10; refine (mtip_is _ false _ _ r HR2.out).mono ?_; rintro e v4 ⟨rfl, hb⟩; have H4 := Lib.hid (H3.out.below hb); have ⟨a0, a1, a2⟩ := H4.out.pc.cells; have ⟨b0, b1, b2⟩ := H4.out.rd.cells; simp only at a0 a1 a2 b0 b1 b2; clear hb)
            | (go_at_call 21; refine (refMtip_is _ _ _ _ r HR.out).mono ?_; rintro e v5 ⟨rfl, hb⟩; have H5 := Lib.hid (H4.out.below hb); have ⟨a0, a1, a2⟩ := H5.out.pc.cells; have ⟨b0, b1, b2⟩ := H5.out.rd.cells; simp only at a0 a1 a2 b0 b1 b2; clear hb))
        go_wp2
        exact ⟨⟨k + 1, by omega, by go_num, _, H5.out⟩, by simp [intOf]; omega⟩
      have e3 := ne_bool d3
      clear d3
      go_wp2_with fail
      have X : (wr.alloc (.cells #[.int .i64 xd, .int .u64 xa, .int .i64 xn, .int .u64 xv] 40)).heap[wr.heap.size]? = some (.cells #[.int .i64 xd, .int .u64 xa, .int .i64 xn, .int .u64 xv] 40 (0, 0)) := heap_alloc_new wr _
      replace HT := Lib.hid (HT.out.below ((Below.refl _ _).alloc (Nat.le_refl _) (.cells #[.int .i64 xd, .int .u64 xa, .int .i64 xn, .int .u64 xv] 40)))
      have gx := HB0.out.size
      clear c0 c1 c2 c3
      have hxc : ¬ wr.heap.size = c := by have := HTO.out.pc.lt; omega
      have hxd : ¬ wr.heap.size = d := by have := HTO.out.rd.lt; omega
      clear HTO HB0
      generalize wr.alloc (.cells #[.int .i64 xd, .int .u64 xa, .int .i64 xn, .int .u64 xv] 40) = wx at *
      generalize wr.heap.size = g at *
      clear X
      obtain ⟨s, n0, n1⟩ := t
      obtain ⟨p0, p1, p2⟩ := HT.out.pc.cells
      obtain ⟨q0, q1, q2⟩ := HT.out.rd.cells
      simp only at p0 p1 p2 q0 q1 q2
      obtain ⟨r, hr⟩ : ∃ r, mtC ⟨s, n0, n1⟩ = r := ⟨_, rfl⟩
      have HR := Lib.hid hr
      have HR2 : Hid (mtC ⟨false, n0, n1⟩ = r) := Lib.hid hr
      clear hr
      go_wp2_with fail
      go_region_held3 (fun w' => w'.cell? ⟨c, 0, none⟩ = some (.bool s) ∧ w'.cell? ⟨c, 1, none⟩ = some (.int .u64 n0) ∧ w'.cell? ⟨c, 2, none⟩ = some (.int .u64 n1) ∧ w'.cell? ⟨d, 0, none⟩ = some (.int .u64 (sI s)) ∧ w'.cell? ⟨d, 1, none⟩ = some (.int .u64 n0) ∧ w'.cell? ⟨d, 2, none⟩ = some (.int .u64 n1)) (go_keep)
        (first
          | (go_at_call 15; refine (time_is _ _ _).mono ?_; rintro e v1 ⟨rfl, hb⟩; have H1 := Lib.hid (HT.out.below (((Below.refl _ _).drew).trans hb)); have ⟨a0, a1, a2⟩ := H1.out.pc.cells; have ⟨b0, b1, b2⟩ := H1.out.rd.cells; simp only at a0 a1 a2 b0 b1 b2; clear hb)
          | (go_at_call 11; refine (msip_is _ _ _ _).mono ?_; rintro e v2 ⟨rfl, hb⟩; have H2 := Lib.hid (H1.out.below hb); have ⟨a0, a1, a2⟩ := H2.out.pc.cells; have ⟨b0, b1, b2⟩ := H2.out.rd.cells; simp only at a0 a1 a2 b0 b1 b2; clear hb)
          | (go_at_call 20; refine (refMsip_is _ _ _ _).mono ?_; rintro e v3 ⟨rfl, hb⟩; have H3 := Lib.hid (H2.out.below hb); have ⟨a0, a1, a2⟩ := H3.out.pc.cells; have ⟨b0, b1, b2⟩ := H3.out.rd.cells; simp only at a0 a1 a2 b0 b1 b2; clear hb)
          | (go_at_call 10; refine (mtip_is _ false _ _ r HR2.out).mono ?_; rintro e v4 ⟨rfl, hb⟩; have H4 := Lib.hid (H3.out.below hb); have ⟨a0, a1, a2⟩ := H4.out.pc.cells; have ⟨b0, b1, b2⟩ := H4.out.rd.cells; simp only at a0 a1 a2 b0 b1 b2; clear hb)
          | (go_at_call 21; refine (refMtip_is _ _ _ _ r HR.out).mono ?_; rintro e v5 ⟨rfl, hb⟩; have H5 := Lib.hid (H4.out.below hb); have ⟨a0, a1, a2⟩ := H5.out.pc.cells; have ⟨b0, b1, b2⟩ := H5.out.rd.cells; simp only at a0 a1 a2 b0 b1 b2; clear hb))
      go_wp2
      exact ⟨⟨k + 1, by omega, by go_num, _, H5.out⟩, by simp [intOf]; omega⟩
    · obtain rfl : k = xs.length := by omega
      have HB := Lib.hid HT.out.bel
      clear hbr HT
      go_wp2
      go_ret
      exact ⟨rfl, HB.out⟩

end Go.Proofs.Ytpmlcnhkfnmheaa
