/- The law PlicOnce, walked. -/
import Derived.Test.YtgimnkablodheaaDoorPlClaims
import Derived.Test.YtgimnkablodheaaDoorPlZero
import Derived.Deep.CutRange
import Derived.Deep.CutBlock
namespace Go.Proofs.YtgimnkablodheaaDoor
open Go.RowKit
set_option linter.unusedVariables false

/-- The law's own plic and array. -/
structure OnceP (w0 w : World) (b g : Nat) (t : PS) : Prop where
  bel : Below w0.heap.size w0 w
  tab0 : Tab w0
  gb : w0.heap.size ≤ b
  bg : b < g
  pc : ProgP w b t
  bu : BusyA w g t
  live : t.live
theorem HoldsB.below' {w w' : World} {g : Nat} {t : TypeId} {n : Nat} {f : Nat → Bool} {S : Nat → Prop} (h : HoldsB w g t n f) (k : Only S w w') (hn : ¬ S g) : HoldsB w' g t n f := k.keeps hn h
theorem OnceP.tab {w0 w : World} {b g : Nat} {t : PS} (h : OnceP w0 w b g t) : Tab w := h.tab0.below h.bel
theorem OnceP.nb {w0 w : World} {b g : Nat} {t : PS} (h : OnceP w0 w b g t) : ¬ b = 0 := by have := h.tab0.lt; have := h.gb; omega
theorem OnceP.below {w0 w w' : World} {b g : Nat} {t : PS} (h : OnceP w0 w b g t) (k : Below w.heap.size w w') : OnceP w0 w' b g t :=
  { h with bel := h.bel.trans (k.mono h.bel.size), pc := h.pc.below k, bu := h.bu.below k h.bu.lt }
theorem OnceP.turn {w0 w w' : World} {b g : Nat} {t t' : PS} (h : OnceP w0 w b g t) (k : Only (fun i => i = b ∨ i = g) w w') (hp : ProgP w' b t') (hb : BusyA w' g t') (hl : t'.live) : OnceP w0 w' b g t' :=
  have hbg := h.bg
  { h with bel := Below.thenOnly h.bel k (fun i hi => by have := h.gb; omega) h.bel.size, pc := hp, bu := hb, live := hl }
/-- The plic alone turned, and what is busy stayed. -/
theorem OnceP.plic {w0 w w' : World} {b g : Nat} {t t' : PS} (h : OnceP w0 w b g t) (k : Only (fun i => i = b) w w') (hp : ProgP w' b t') (hl : t'.live) (e : ∀ s, s < 32 → t.busy s = t'.busy s) : OnceP w0 w' b g t' :=
  have hbg := h.bg
  h.turn (k.mono fun i hi => .inl (.inl hi)) hp (BusyA.same (HoldsB.below' h.bu k (by omega)) e) hl
theorem busy_wr {t : PS} {p : Nat × Nat} (v : Int) (hk : ¬ p.1 = 4) : (wrT t p v).busy = t.busy := by
  unfold wrT
  split
  · split <;> rfl
  · rfl
  · rfl
  · rename_i h; exact absurd h hk
  · rfl
theorem idle_hit {f on : Nat → Bool} {x i : Nat} (h1 : 1 ≤ x) (h2 : x ≤ 31) (h3 : on x = true) : idleF f on x i = if i = x then false else f i := by
  unfold idleF; rw [if_pos ⟨h1, h2, h3⟩]; rfl
theorem plc_not {a n : Int} (h0 : ¬ a = 2097156) (h1 : ¬ a = 2101252) (ha : 0 ≤ a) : ¬ (plcK a n).1 = 4 := by
  rcases plc_cases a n ha with ⟨_, k, _, _, h⟩ | ⟨_, _, h⟩ | ⟨_, _, h⟩ | ⟨_, _, h⟩ | ⟨_, _, h⟩ | ⟨_, _, h⟩ | ⟨_, h, _⟩ | ⟨_, h, _⟩ | ⟨_, _, h⟩ | ⟨_, h⟩
  all_goals first | (rw [h]; simp) | omega
theorem plc_len {a n : Int} (hn : ¬ n = 4) : plcK a n = (5, 0) := by unfold plcK; rw [if_neg hn]
def zero32 : Array Value := barr 32 fun _ => false
theorem zero_busy (w : World) : (zeroValue 52).run Tryd.prog w = .ok (.agg zero32) w := by kernel_rfl
theorem busy_0 (w : World) : BusyA (w.alloc (.cells zero32 52)) w.heap.size p0 := HoldsB.new w _ 32 _

set_option maxRecDepth 100000 in
set_option maxHeartbeats 16000000 in
theorem plicOnce_walk (l : Value) (xs : List ActV) (w : World) (hl : ActsIn w.heap.size w l xs) (ht : Tab w) :
    Calls Tryd.prog 6 #[l] w fun e w' => e = .returned (.bool true) ∧ Below w.heap.size w w' := by
  have HL := Lib.hid hl
  have HT := Lib.hid ht
  obtain ⟨al, cl, rfl, hll, _⟩ := hl
  have hll2 : xs.length ≤ 9223372036854775807 := by unfold maxLen at hll; omega
  clear hll ht
  by_cases hx60 : 200 < xs.length
  · have hd : decide ((200 : Int) < (xs.length : Int)) = true := by rw [decide_eq_true_eq]; omega
    go_enter Tryd.func6, Tryd.ntmps6
    go_wp2_with fail
    refine (awake_any _ HT.out).mono ?_
    rintro e w1 ⟨rfl, hb⟩
    have HB := Lib.hid hb
    clear hb
    go_wp2
    go_ret
    exact ⟨rfl, HB.out⟩
  have hd : decide ((200 : Int) < (xs.length : Int)) = false := by rw [decide_eq_false_iff_not]; omega
  clear hx60
  go_enter Tryd.func6, Tryd.ntmps6
  go_wp2_with fail
  refine (awake_any _ HT.out).mono ?_
  rintro e w1 ⟨rfl, hb⟩
  have HB := Lib.hid hb
  clear hb
  go_wp2_with fail
  refine (new_is _).mono ?_
  rintro e w2 ⟨rfl, hb⟩
  have HB2 := Lib.hid (HB.out.trans (hb.mono HB.out.size))
  clear hb HB
  go_upto_region 6 with (refine wpList_store_row rfl _ _ _ rfl w2.heap.size _ rfl rfl 27 _ (heap_alloc_new w2 _) (info_row _) (rowQ_39 _) (rowQ_one _) ?_)
  simp only [zerosQ_def]
  have PA := Lib.hid (prog_made w2 zerosQ p0_ok)
  have HB3 := Lib.hid (below_made HB2.out HB2.out.size zerosQ 27 (varr 39 (cellQ p0)))
  have gc := HB2.out.size
  have sc : w2.heap.size < ((w2.alloc (.cells zerosQ 27)).setRow w2.heap.size (varr 39 (cellQ p0))).heap.size := by rw [laid_size]; omega
  generalize (w2.alloc (.cells zerosQ 27)).setRow w2.heap.size (varr 39 (cellQ p0)) = w3 at *
  obtain ⟨b, hb0⟩ : ∃ b, w2.heap.size = b := ⟨_, rfl⟩
  rw [hb0] at PA gc sc ⊢
  clear hb0 HB2
  have hz := zero_busy
  go_upto_region 7 with (fail)
  clear hz
  have HF : Hid (OnceP w (w3.alloc (.cells zero32 52)) b w3.heap.size p0) := by
    have k := (Below.refl w3.heap.size w3).alloc (Nat.le_refl _) (.cells zero32 52)
    exact Lib.hid ⟨HB3.out.alloc HB3.out.size _, HT.out, gc, sc, PA.out.below k, busy_0 w3, p0_live⟩
  clear PA HB3 gc sc
  generalize w3.alloc (.cells zero32 52) = w4 at *
  obtain ⟨g, hg0⟩ : ∃ g, w3.heap.size = g := ⟨_, rfl⟩
  rw [hg0] at HF ⊢
  clear hg0
  go_wp2
  go_loopg [5] (xs.length) (fun gg i wr => ∃ k : Nat, k + gg = xs.length ∧ i = .int .i64 k ∧ ∃ t, OnceP w wr b g t)
  case atStart => exact ⟨0, by omega, rfl, _, HF.out⟩
  case round =>
    obtain ⟨k, hk, rfl, t, hT⟩ := hrel
    have HP := Lib.hid hT
    have hbr := hT.bel
    clear hT HF
    cases gk with
    | zero =>
      obtain rfl : k = xs.length := by omega
      clear hbr
      go_wp2
      go_ret
      exact ⟨rfl, HP.out.bel⟩
    | succ gg =>
      have hlt : k < xs.length := by omega
      obtain ⟨_, _, hv, _, hx⟩ := HL.out.below hbr
      injection hv with hv1 hv2 hv3
      subst hv1 hv3
      rcases hx with hx | ⟨bb, off, rfl, hbb, hc⟩
      · rw [hx] at hlt; simp at hlt
      obtain ⟨c0, c1, c2, c3, c4, c5, r0, r1, r2, r3, r4⟩ := act_at (hc k hlt)
      have R1 := Lib.hid r1
      have R3 := Lib.hid r3
      clear hc hbr hv2 r0 r2 r3 r4
      generalize xs[k] = x at *
      obtain ⟨xd, xa, xn, xv, xs1, xu⟩ := x
      simp only at c0 c1 c2 c3 c4 c5 r1 R1 R3
      by_cases a0 : xa = 2097156
      · subst a0
        clear r1
        go_upto_block 2 with (fail)
        have HP1 := Lib.hid (HP.out.below ((Below.refl wr.heap.size wr).alloc (Nat.le_refl _) (.cells #[.int .i64 xd, .int .u64 2097156, .int .i64 xn, .int .u64 xv, .int .i64 xs1, .bool xu] 47)))
        have H0 := heap_alloc_new wr (.cells #[.int .i64 xd, .int .u64 2097156, .int .i64 xn, .int .u64 xv, .int .i64 xs1, .bool xu] 47)
        have hbx : ¬ wr.heap.size = b ∧ ¬ wr.heap.size = g := by have := HP.out.pc.lt; have := HP.out.bu.lt; omega
        generalize wr.alloc (.cells #[.int .i64 xd, .int .u64 2097156, .int .i64 xn, .int .u64 xv, .int .i64 xs1, .bool xu] 47) = w1 at *
        obtain ⟨bx, hbx0⟩ : ∃ bx, wr.heap.size = bx := ⟨_, rfl⟩
        rw [hbx0] at H0 hbx ⊢
        clear hbx0
        have q0 : w1.cell? ⟨bx, 0, none⟩ = some (.int .i64 xd) := by rw [cell_of_row _ _ _ _ _ _ H0]; rfl
        have q1 : w1.cell? ⟨bx, 1, none⟩ = some (.int .u64 2097156) := by rw [cell_of_row _ _ _ _ _ _ H0]; rfl
        have q2 : w1.cell? ⟨bx, 2, none⟩ = some (.int .i64 xn) := by rw [cell_of_row _ _ _ _ _ _ H0]; rfl
        have q3 : w1.cell? ⟨bx, 3, none⟩ = some (.int .u64 xv) := by rw [cell_of_row _ _ _ _ _ _ H0]; rfl
        have q4 : w1.cell? ⟨bx, 4, none⟩ = some (.int .i64 xs1) := by rw [cell_of_row _ _ _ _ _ _ H0]; rfl
        have q5 : w1.cell? ⟨bx, 5, none⟩ = some (.bool xu) := by rw [cell_of_row _ _ _ _ _ _ H0]; rfl
        have HQ1 := Lib.hid q1
        have HQ2 := Lib.hid q2
        have HQ3 := Lib.hid q3
        clear H0 c0 c1 c2 c3 c4 c5
        go_cut [] from 16 to 94 (fun wx => ∃ t2, OnceP w wx b g t2)
        case first =>
          by_cases hd0 : xd = 0
          · subst hd0
            clear q0
            go_wp2_with fail
            (with_reducible refine (read_is _ b t t 8192 4 (bits32 fun s => t.on s 0) true HP1.out.pc HP1.out.tab (by unfold In64; decide) rfl rfl (by decide)).mono ?_)
            rintro e w2 ⟨rfl, ho, hp⟩
            have HP2 := Lib.hid (HP1.out.plic ho hp HP1.out.live (fun s _ => rfl))
            have q1b := only_cell ho hbx.1 HQ1.out
            have q2b := only_cell ho hbx.1 HQ2.out
            have q3b := only_cell ho hbx.1 HQ3.out
            have HQ2b := Lib.hid q2b
            have HQ3b := Lib.hid q3b
            clear ho hp q1 q2 q3
            go_wp2_with fail
            (with_reducible refine (write_any w2 b t HP2.out.pc HP2.out.tab 2097156 xn xv (by unfold In64; decide) R3.out).mono ?_)
            rintro e w3 ⟨rfl, ho, hp⟩
            have HO3 := Lib.hid ho
            have HP3 := Lib.hid hp
            have q2c := only_cell ho hbx.1 HQ2b.out
            have q3c := only_cell ho hbx.1 HQ3b.out
            have HG3 : Hid (BusyA w3 g t) := Lib.hid (HoldsB.below' HP2.out.bu ho (by have := HP2.out.bg; omega))
            clear ho hp q1b q2b q3b
            have hv0 := R3.out.1
            have hx1 := Int.emod_nonneg xv (show (4294967296 : Int) ≠ 0 by decide)
            by_cases hn4 : xn = 4
            · subst hn4
              obtain ⟨z, hz⟩ : ∃ z : Nat, (xv % 4294967296).toNat = z := ⟨_, rfl⟩
              have hzv : xv % 4294967296 = (z : Int) := by omega
              have hpz : wrT t (plcK 2097156 4) xv = doneT t 0 z := by show doneT t 0 (xv % 4294967296).toNat = _; rw [hz]
              have HPZ : Hid (ProgP w3 b (doneT t 0 z)) := Lib.hid (by rw [← hpz]; exact HP3.out)
              clear hz hx1 hpz HP3
              by_cases z1 : 1 ≤ z
              · have d1 : decide ((1 : Int) ≤ (z : Int)) = true := by rw [decide_eq_true_eq]; omega
                by_cases z2 : z ≤ 31
                · have d2 : decide ((z : Int) ≤ 31) = true := by rw [decide_eq_true_eq]; omega
                  have hbit := bit_of32t (fun s => t.on s 0) (show z < 32 by omega)
                  have i1 : (z : Int) < 32 := by omega
                  have hcb : w3.cell? ⟨g, z, none⟩ = some (.bool (t.busy z)) := HG3.out.cell (by omega)
                  have hcf := HoldsB.frozen HG3.out z
                  cases hon : t.on z 0 with
                  | true =>
                    rw [hon] at hbit
                    have HN : Hid (OnceP w (w3.setCell ⟨g, z, none⟩ (.bool false)) b g (doneT t 0 z)) := Lib.hid (HP2.out.turn ((HO3.out.mono fun i hi => .inl (.inl hi)).setCell (p := ⟨g, z, none⟩) (.inl (.inr rfl)) _) (HPZ.out.keeps ((Only.refl (fun i => i = g) w3).setCell (p := ⟨g, z, none⟩) (.inl rfl) _) (by have := HP2.out.bg; omega)) ((HoldsB.set HG3.out z false).congr fun i _ => ((busy_done t 0 z i).trans (idle_hit z1 z2 hon)).symm) (live_done HP2.out.live _ _))
                    clear hon z1 z2
                    go_wp2
                    go_meet
                    exact ⟨_, HN.out⟩
                  | false =>
                    rw [hon] at hbit
                    have HN : Hid (OnceP w w3 b g (doneT t 0 z)) := Lib.hid (HP2.out.turn (HO3.out.mono fun i hi => .inl (.inl hi)) HPZ.out (BusyA.same HG3.out fun i _ => by rw [busy_done]; unfold idleF; rw [if_neg (fun h => by have := h.2.2; simp only at this; rw [hon] at this; cases this)]) (live_done HP2.out.live _ _))
                    clear hon z1 z2
                    go_wp2
                    go_meet
                    exact ⟨_, HN.out⟩
                · have d2 : decide ((z : Int) ≤ 31) = false := by rw [decide_eq_false_iff_not]; omega
                  have HN : Hid (OnceP w w3 b g (doneT t 0 z)) := Lib.hid (HP2.out.turn (HO3.out.mono fun i hi => .inl (.inl hi)) HPZ.out (BusyA.same HG3.out fun i _ => by rw [busy_done]; unfold idleF; rw [if_neg (fun h => z2 h.2.1)]) (live_done HP2.out.live _ _))
                  clear z1 z2
                  go_wp2
                  go_meet
                  exact ⟨_, HN.out⟩
              · have d1 : decide ((1 : Int) ≤ (z : Int)) = false := by rw [decide_eq_false_iff_not]; omega
                have HN : Hid (OnceP w w3 b g (doneT t 0 z)) := Lib.hid (HP2.out.turn (HO3.out.mono fun i hi => .inl (.inl hi)) HPZ.out (BusyA.same HG3.out fun i _ => by rw [busy_done]; unfold idleF; rw [if_neg (fun h => z1 h.1)]) (live_done HP2.out.live _ _))
                clear z1
                go_wp2
                go_meet
                exact ⟨_, HN.out⟩
            · have e4 := neB hn4
              have HN : Hid (OnceP w w3 b g t) := Lib.hid (HP2.out.plic HO3.out (by have := HP3.out; rw [plc_len hn4] at this; exact this) HP2.out.live (fun s _ => rfl))
              clear hn4 hx1
              go_wp2
              go_meet
              exact ⟨_, HN.out⟩
          by_cases hd1 : xd = 1
          · subst hd1
            clear hd0
            by_cases hn4 : xn = 4
            · subst hn4
              have HC := Lib.hid (claims_at0 w1 b g t 1 xv xs1 xu HP1.out.pc HP1.out.bu HP1.out.tab (by have := HP1.out.bg; omega) HP1.out.nb HP1.out.live)
              go_wp2_with fail
              (with_reducible refine (HC.out).mono ?_)
              rintro e w2 ⟨rfl, ho, hp, hg⟩
              have HN := Lib.hid (HP1.out.turn ho hp hg (live_claim HP1.out.live _))
              clear ho hp hg q0 q1 q2 q3 q4 q5
              go_wp2
              go_meet
              exact ⟨_, HN.out⟩
            · have HC := Lib.hid (claims_len w1 b g t ⟨1, 2097156, xn, xv, xs1, xu⟩ 0 HP1.out.pc HP1.out.bu HP1.out.tab (by have := HP1.out.bg; omega) HP1.out.nb R1.out (by omega) hn4)
              unfold actVal at HC
              simp only at HC
              clear hn4
              go_wp2_with fail
              (with_reducible refine (HC.out).mono ?_)
              rintro e w2 ⟨rfl, ho, hp, hg⟩
              have HN := Lib.hid (HP1.out.turn ho hp hg (live_rd HP1.out.live _))
              clear ho hp hg q0 q1 q2 q3 q4 q5
              go_wp2
              go_meet
              exact ⟨_, HN.out⟩
          by_cases hd2 : xd = 2
          · subst hd2
            clear hd0 hd1 q0 q1 q2 q3
            go_wp2_with fail
            (with_reducible refine (level_any w1 b t xs1 xu HP1.out.pc).mono ?_)
            rintro e w2 ⟨rfl, ho, hp⟩
            have HN := Lib.hid (HP1.out.plic ho hp (live_level HP1.out.live _ _) (fun s _ => by rw [busy_level]))
            clear ho hp q4 q5
            go_wp2
            go_meet
            exact ⟨_, HN.out⟩
          · have e0 := neB hd0
            have e1 := neB hd1
            have e2 := neB hd2
            clear hd0 hd1 hd2 q1 q2 q3 q4 q5
            go_wp2
            go_meet
            exact ⟨_, HP1.out⟩
        case rest =>
          obtain ⟨t2, hO⟩ := hcut
          have HO := Lib.hid hO
          clear hO q0 q1 q2 q3 q4 q5 HP HP1
          go_wp2_with fail
          (with_reducible refine (stands_any wc b g t2 HO.out.pc HO.out.bu (by have := HO.out.bg; omega) HO.out.live HO.out.tab).mono ?_)
          rintro e w9 ⟨rfl, ho, hp⟩
          have HN := Lib.hid (HO.out.plic ho hp HO.out.live (fun s _ => rfl))
          clear ho hp
          go_wp2
          go_roundg gg
          case measure => omega
          case rel => exact ⟨k + 1, by omega, by go_num, _, HN.out⟩
      by_cases a1 : xa = 2101252
      · subst a1
        clear r1 a0
        go_upto_block 2 with (fail)
        have HP1 := Lib.hid (HP.out.below ((Below.refl wr.heap.size wr).alloc (Nat.le_refl _) (.cells #[.int .i64 xd, .int .u64 2101252, .int .i64 xn, .int .u64 xv, .int .i64 xs1, .bool xu] 47)))
        have H0 := heap_alloc_new wr (.cells #[.int .i64 xd, .int .u64 2101252, .int .i64 xn, .int .u64 xv, .int .i64 xs1, .bool xu] 47)
        have hbx : ¬ wr.heap.size = b ∧ ¬ wr.heap.size = g := by have := HP.out.pc.lt; have := HP.out.bu.lt; omega
        generalize wr.alloc (.cells #[.int .i64 xd, .int .u64 2101252, .int .i64 xn, .int .u64 xv, .int .i64 xs1, .bool xu] 47) = w1 at *
        obtain ⟨bx, hbx0⟩ : ∃ bx, wr.heap.size = bx := ⟨_, rfl⟩
        rw [hbx0] at H0 hbx ⊢
        clear hbx0
        have q0 : w1.cell? ⟨bx, 0, none⟩ = some (.int .i64 xd) := by rw [cell_of_row _ _ _ _ _ _ H0]; rfl
        have q1 : w1.cell? ⟨bx, 1, none⟩ = some (.int .u64 2101252) := by rw [cell_of_row _ _ _ _ _ _ H0]; rfl
        have q2 : w1.cell? ⟨bx, 2, none⟩ = some (.int .i64 xn) := by rw [cell_of_row _ _ _ _ _ _ H0]; rfl
        have q3 : w1.cell? ⟨bx, 3, none⟩ = some (.int .u64 xv) := by rw [cell_of_row _ _ _ _ _ _ H0]; rfl
        have q4 : w1.cell? ⟨bx, 4, none⟩ = some (.int .i64 xs1) := by rw [cell_of_row _ _ _ _ _ _ H0]; rfl
        have q5 : w1.cell? ⟨bx, 5, none⟩ = some (.bool xu) := by rw [cell_of_row _ _ _ _ _ _ H0]; rfl
        have HQ1 := Lib.hid q1
        have HQ2 := Lib.hid q2
        have HQ3 := Lib.hid q3
        clear H0 c0 c1 c2 c3 c4 c5
        go_cut [] from 16 to 94 (fun wx => ∃ t2, OnceP w wx b g t2)
        case first =>
          by_cases hd0 : xd = 0
          · subst hd0
            clear q0
            go_wp2_with fail
            (with_reducible refine (read_is _ b t t 8320 4 (bits32 fun s => t.on s 1) true HP1.out.pc HP1.out.tab (by unfold In64; decide) rfl rfl (by decide)).mono ?_)
            rintro e w2 ⟨rfl, ho, hp⟩
            have HP2 := Lib.hid (HP1.out.plic ho hp HP1.out.live (fun s _ => rfl))
            have q1b := only_cell ho hbx.1 HQ1.out
            have q2b := only_cell ho hbx.1 HQ2.out
            have q3b := only_cell ho hbx.1 HQ3.out
            have HQ2b := Lib.hid q2b
            have HQ3b := Lib.hid q3b
            clear ho hp q1 q2 q3
            go_wp2_with fail
            (with_reducible refine (write_any w2 b t HP2.out.pc HP2.out.tab 2101252 xn xv (by unfold In64; decide) R3.out).mono ?_)
            rintro e w3 ⟨rfl, ho, hp⟩
            have HO3 := Lib.hid ho
            have HP3 := Lib.hid hp
            have q2c := only_cell ho hbx.1 HQ2b.out
            have q3c := only_cell ho hbx.1 HQ3b.out
            have HG3 : Hid (BusyA w3 g t) := Lib.hid (HoldsB.below' HP2.out.bu ho (by have := HP2.out.bg; omega))
            clear ho hp q1b q2b q3b
            have hv0 := R3.out.1
            have hx1 := Int.emod_nonneg xv (show (4294967296 : Int) ≠ 0 by decide)
            by_cases hn4 : xn = 4
            · subst hn4
              obtain ⟨z, hz⟩ : ∃ z : Nat, (xv % 4294967296).toNat = z := ⟨_, rfl⟩
              have hzv : xv % 4294967296 = (z : Int) := by omega
              have hpz : wrT t (plcK 2101252 4) xv = doneT t 1 z := by show doneT t 1 (xv % 4294967296).toNat = _; rw [hz]
              have HPZ : Hid (ProgP w3 b (doneT t 1 z)) := Lib.hid (by rw [← hpz]; exact HP3.out)
              clear hz hx1 hpz HP3
              by_cases z1 : 1 ≤ z
              · have d1 : decide ((1 : Int) ≤ (z : Int)) = true := by rw [decide_eq_true_eq]; omega
                by_cases z2 : z ≤ 31
                · have d2 : decide ((z : Int) ≤ 31) = true := by rw [decide_eq_true_eq]; omega
                  have hbit := bit_of32t (fun s => t.on s 1) (show z < 32 by omega)
                  have i1 : (z : Int) < 32 := by omega
                  have hcb : w3.cell? ⟨g, z, none⟩ = some (.bool (t.busy z)) := HG3.out.cell (by omega)
                  have hcf := HoldsB.frozen HG3.out z
                  cases hon : t.on z 1 with
                  | true =>
                    rw [hon] at hbit
                    have HN : Hid (OnceP w (w3.setCell ⟨g, z, none⟩ (.bool false)) b g (doneT t 1 z)) := Lib.hid (HP2.out.turn ((HO3.out.mono fun i hi => .inl (.inl hi)).setCell (p := ⟨g, z, none⟩) (.inl (.inr rfl)) _) (HPZ.out.keeps ((Only.refl (fun i => i = g) w3).setCell (p := ⟨g, z, none⟩) (.inl rfl) _) (by have := HP2.out.bg; omega)) ((HoldsB.set HG3.out z false).congr fun i _ => ((busy_done t 1 z i).trans (idle_hit z1 z2 hon)).symm) (live_done HP2.out.live _ _))
                    clear hon z1 z2
                    go_wp2
                    go_meet
                    exact ⟨_, HN.out⟩
                  | false =>
                    rw [hon] at hbit
                    have HN : Hid (OnceP w w3 b g (doneT t 1 z)) := Lib.hid (HP2.out.turn (HO3.out.mono fun i hi => .inl (.inl hi)) HPZ.out (BusyA.same HG3.out fun i _ => by rw [busy_done]; unfold idleF; rw [if_neg (fun h => by have := h.2.2; simp only at this; rw [hon] at this; cases this)]) (live_done HP2.out.live _ _))
                    clear hon z1 z2
                    go_wp2
                    go_meet
                    exact ⟨_, HN.out⟩
                · have d2 : decide ((z : Int) ≤ 31) = false := by rw [decide_eq_false_iff_not]; omega
                  have HN : Hid (OnceP w w3 b g (doneT t 1 z)) := Lib.hid (HP2.out.turn (HO3.out.mono fun i hi => .inl (.inl hi)) HPZ.out (BusyA.same HG3.out fun i _ => by rw [busy_done]; unfold idleF; rw [if_neg (fun h => z2 h.2.1)]) (live_done HP2.out.live _ _))
                  clear z1 z2
                  go_wp2
                  go_meet
                  exact ⟨_, HN.out⟩
              · have d1 : decide ((1 : Int) ≤ (z : Int)) = false := by rw [decide_eq_false_iff_not]; omega
                have HN : Hid (OnceP w w3 b g (doneT t 1 z)) := Lib.hid (HP2.out.turn (HO3.out.mono fun i hi => .inl (.inl hi)) HPZ.out (BusyA.same HG3.out fun i _ => by rw [busy_done]; unfold idleF; rw [if_neg (fun h => z1 h.1)]) (live_done HP2.out.live _ _))
                clear z1
                go_wp2
                go_meet
                exact ⟨_, HN.out⟩
            · have e4 := neB hn4
              have HN : Hid (OnceP w w3 b g t) := Lib.hid (HP2.out.plic HO3.out (by have := HP3.out; rw [plc_len hn4] at this; exact this) HP2.out.live (fun s _ => rfl))
              clear hn4 hx1
              go_wp2
              go_meet
              exact ⟨_, HN.out⟩
          by_cases hd1 : xd = 1
          · subst hd1
            clear hd0
            by_cases hn4 : xn = 4
            · subst hn4
              have HC := Lib.hid (claims_at1 w1 b g t 1 xv xs1 xu HP1.out.pc HP1.out.bu HP1.out.tab (by have := HP1.out.bg; omega) HP1.out.nb HP1.out.live)
              go_wp2_with fail
              (with_reducible refine (HC.out).mono ?_)
              rintro e w2 ⟨rfl, ho, hp, hg⟩
              have HN := Lib.hid (HP1.out.turn ho hp hg (live_claim HP1.out.live _))
              clear ho hp hg q0 q1 q2 q3 q4 q5
              go_wp2
              go_meet
              exact ⟨_, HN.out⟩
            · have HC := Lib.hid (claims_len w1 b g t ⟨1, 2101252, xn, xv, xs1, xu⟩ 1 HP1.out.pc HP1.out.bu HP1.out.tab (by have := HP1.out.bg; omega) HP1.out.nb R1.out (by omega) hn4)
              unfold actVal at HC
              simp only at HC
              clear hn4
              go_wp2_with fail
              (with_reducible refine (HC.out).mono ?_)
              rintro e w2 ⟨rfl, ho, hp, hg⟩
              have HN := Lib.hid (HP1.out.turn ho hp hg (live_rd HP1.out.live _))
              clear ho hp hg q0 q1 q2 q3 q4 q5
              go_wp2
              go_meet
              exact ⟨_, HN.out⟩
          by_cases hd2 : xd = 2
          · subst hd2
            clear hd0 hd1 q0 q1 q2 q3
            go_wp2_with fail
            (with_reducible refine (level_any w1 b t xs1 xu HP1.out.pc).mono ?_)
            rintro e w2 ⟨rfl, ho, hp⟩
            have HN := Lib.hid (HP1.out.plic ho hp (live_level HP1.out.live _ _) (fun s _ => by rw [busy_level]))
            clear ho hp q4 q5
            go_wp2
            go_meet
            exact ⟨_, HN.out⟩
          · have e0 := neB hd0
            have e1 := neB hd1
            have e2 := neB hd2
            clear hd0 hd1 hd2 q1 q2 q3 q4 q5
            go_wp2
            go_meet
            exact ⟨_, HP1.out⟩
        case rest =>
          obtain ⟨t2, hO⟩ := hcut
          have HO := Lib.hid hO
          clear hO q0 q1 q2 q3 q4 q5 HP HP1
          go_wp2_with fail
          (with_reducible refine (stands_any wc b g t2 HO.out.pc HO.out.bu (by have := HO.out.bg; omega) HO.out.live HO.out.tab).mono ?_)
          rintro e w9 ⟨rfl, ho, hp⟩
          have HN := Lib.hid (HO.out.plic ho hp HO.out.live (fun s _ => rfl))
          clear ho hp
          go_wp2
          go_roundg gg
          case measure => omega
          case rel => exact ⟨k + 1, by omega, by go_num, _, HN.out⟩
      · have HNK : Hid (¬ (plcK xa xn).1 = 4) := Lib.hid (plc_not a0 a1 r1.1)
        have ne0 := neB a0
        have ne1 := neB a1
        clear r1 a0 a1
        go_upto_block 2 with (fail)
        have HP1 := Lib.hid (HP.out.below ((Below.refl wr.heap.size wr).alloc (Nat.le_refl _) (.cells #[.int .i64 xd, .int .u64 xa, .int .i64 xn, .int .u64 xv, .int .i64 xs1, .bool xu] 47)))
        have H0 := heap_alloc_new wr (.cells #[.int .i64 xd, .int .u64 xa, .int .i64 xn, .int .u64 xv, .int .i64 xs1, .bool xu] 47)
        have hbx : ¬ wr.heap.size = b ∧ ¬ wr.heap.size = g := by have := HP.out.pc.lt; have := HP.out.bu.lt; omega
        generalize wr.alloc (.cells #[.int .i64 xd, .int .u64 xa, .int .i64 xn, .int .u64 xv, .int .i64 xs1, .bool xu] 47) = w1 at *
        obtain ⟨bx, hbx0⟩ : ∃ bx, wr.heap.size = bx := ⟨_, rfl⟩
        rw [hbx0] at H0 hbx ⊢
        clear hbx0
        have q0 : w1.cell? ⟨bx, 0, none⟩ = some (.int .i64 xd) := by rw [cell_of_row _ _ _ _ _ _ H0]; rfl
        have q1 : w1.cell? ⟨bx, 1, none⟩ = some (.int .u64 xa) := by rw [cell_of_row _ _ _ _ _ _ H0]; rfl
        have q2 : w1.cell? ⟨bx, 2, none⟩ = some (.int .i64 xn) := by rw [cell_of_row _ _ _ _ _ _ H0]; rfl
        have q3 : w1.cell? ⟨bx, 3, none⟩ = some (.int .u64 xv) := by rw [cell_of_row _ _ _ _ _ _ H0]; rfl
        have q4 : w1.cell? ⟨bx, 4, none⟩ = some (.int .i64 xs1) := by rw [cell_of_row _ _ _ _ _ _ H0]; rfl
        have q5 : w1.cell? ⟨bx, 5, none⟩ = some (.bool xu) := by rw [cell_of_row _ _ _ _ _ _ H0]; rfl
        have HQ1 := Lib.hid q1
        have HQ2 := Lib.hid q2
        have HQ3 := Lib.hid q3
        clear H0 c0 c1 c2 c3 c4 c5
        go_cut [] from 16 to 94 (fun wx => ∃ t2, OnceP w wx b g t2)
        case first =>
          by_cases hd0 : xd = 0
          · subst hd0
            clear q0
            go_wp2_with fail
            (with_reducible refine (write_any w1 b t HP1.out.pc HP1.out.tab xa xn xv R1.out R3.out).mono ?_)
            rintro e w2 ⟨rfl, ho, hp⟩
            have HN := Lib.hid (HP1.out.plic ho hp (live_wr HP1.out.live _ _) (fun s _ => by rw [busy_wr _ HNK.out]))
            have q3b := only_cell ho hbx.1 HQ3.out
            clear ho hp q1 q2 q3
            go_wp2
            go_meet
            exact ⟨_, HN.out⟩
          by_cases hd1 : xd = 1
          · subst hd1
            clear hd0
            have HC := Lib.hid (claims_other w1 b g t ⟨1, xa, xn, xv, xs1, xu⟩ (-1) HP1.out.pc HP1.out.bu HP1.out.tab (by have := HP1.out.bg; omega) HP1.out.nb R1.out (by omega) HNK.out)
            unfold actVal at HC
            simp only at HC
            go_wp2_with fail
            (with_reducible refine (HC.out).mono ?_)
            rintro e w2 ⟨rfl, ho, hp, hg⟩
            have HN := Lib.hid (HP1.out.turn ho hp hg (live_rd HP1.out.live _))
            clear ho hp hg q0 q1 q2 q3 q4 q5
            go_wp2
            go_meet
            exact ⟨_, HN.out⟩
          by_cases hd2 : xd = 2
          · subst hd2
            clear hd0 hd1 q0 q1 q2 q3
            go_wp2_with fail
            (with_reducible refine (level_any w1 b t xs1 xu HP1.out.pc).mono ?_)
            rintro e w2 ⟨rfl, ho, hp⟩
            have HN := Lib.hid (HP1.out.plic ho hp (live_level HP1.out.live _ _) (fun s _ => by rw [busy_level]))
            clear ho hp q4 q5
            go_wp2
            go_meet
            exact ⟨_, HN.out⟩
          · have e0 := neB hd0
            have e1 := neB hd1
            have e2 := neB hd2
            clear hd0 hd1 hd2 q1 q2 q3 q4 q5
            go_wp2
            go_meet
            exact ⟨_, HP1.out⟩
        case rest =>
          obtain ⟨t2, hO⟩ := hcut
          have HO := Lib.hid hO
          clear hO q0 q1 q2 q3 q4 q5 HP HP1
          go_wp2_with fail
          (with_reducible refine (stands_any wc b g t2 HO.out.pc HO.out.bu (by have := HO.out.bg; omega) HO.out.live HO.out.tab).mono ?_)
          rintro e w9 ⟨rfl, ho, hp⟩
          have HN := Lib.hid (HO.out.plic ho hp HO.out.live (fun s _ => rfl))
          clear ho hp
          go_wp2
          go_roundg gg
          case measure => omega
          case rel => exact ⟨k + 1, by omega, by go_num, _, HN.out⟩

end Go.Proofs.YtgimnkablodheaaDoor
