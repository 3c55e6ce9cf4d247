/- The law UartStill, walked. -/
import Derived.Test.YtcbjfkbmbjmnbaaDoorUv
import Derived.Test.YtcbjfkbmbjmnbaaDoorUaActs
import Derived.Test.YtcbjfkbmbjmnbaaDoorUu
namespace Go.Proofs.YtcbjfkbmbjmnbaaDoor
open Go.RowKit
set_option linter.unusedVariables false

/-- Two uarts of the program, the law's own, apart. -/
structure Both2 (w0 w : World) (a b : Nat) (Fa Fb : Nat → Prop) (s t : US) : Prop where
  tab0 : Tab w0
  bel : Below w0.heap.size w0 w
  na : ∀ i, Fa i → w0.heap.size ≤ i
  pa : UP w a Fa s
  pb : UP w b Fb t
  ab : ∀ i, Fa i → ¬ Fb i
section
variable {w0 w w' : World} {a b : Nat} {Fa Fb : Nat → Prop} {s t s' : US}
theorem Both2.tab (h : Both2 w0 w a b Fa Fb s t) : Tab w := h.tab0.below h.bel
theorem Both2.ta (h : Both2 w0 w a b Fa Fb s t) : ¬ Fa 0 := fun hi => by have := h.na _ hi; have := h.tab0.lt; omega
theorem Both2.below (h : Both2 w0 w a b Fa Fb s t) (k : Below w.heap.size w w') : Both2 w0 w' a b Fa Fb s t := { h with bel := h.bel.trans (k.mono h.bel.size), pa := h.pa.below k, pb := h.pb.below k }
theorem Both2.turn (h : Both2 w0 w a b Fa Fb s t) (k : EndU cellsP 52 w a Fa s' w') : ∃ Fa', Both2 w0 w' a b Fa' Fb s' t := by
  obtain ⟨o, F', hF, vi, vo, hp⟩ := k
  have lb := h.pb.lt
  refine ⟨F', h.tab0, Below.thenOnly h.bel o h.na h.bel.size, fun i hi => ?_, ⟨vi, vo, hp⟩, h.pb.keeps o fun i hi hj => h.ab i hj hi, fun i hi hj => ?_⟩
  · rcases hF i hi with h1 | h1
    · exact h.na i h1
    · exact Nat.le_trans h.bel.size h1
  · rcases hF i hi with h1 | h1
    · exact h.ab i h1 hj
    · have := lb i hj; omega
theorem Both2.made {F : Nat → Prop} (h : OwnU w0 w a F t) (k : MadeU cellsP 52 w t (.returned (.pointer (some ⟨b, 0, none⟩))) w') : ∃ Fb, Both2 w0 w' a b F Fb t t := by
  obtain ⟨b', Fb, vi, vo, he, kb, hnb, hp⟩ := k
  injection he with he
  injection he with he
  injection he with he
  injection he with he
  subst he
  have la := h.obj.lt
  exact ⟨Fb, h.tab0, h.bel.trans (kb.mono h.bel.size), h.new, h.obj.below kb, ⟨vi, vo, hp⟩, fun i hi hj => by have := la i hi; have := hnb i hj; omega⟩
end
/-- Writing by one of the two, to a literal state. -/
theorem twoWrite (w0 w : World) (a b : Nat) (Fa Fb : Nat → Prop) (s t s' : US) (h : Both2 w0 w a b Fa Fb s t) (off v : Int) (k : Nat) (ho : In64 off) (hv : In64 v) (hk : plK s off 1 = k) (hk10 : k < 10) (ht : wrT s (v % 256) k = s') :
    Calls Tryd.prog 12 #[.pointer (some ⟨a, 0, none⟩), .int .u64 off, .int .i64 1, .int .u64 v] w fun e w' => e = .returned (.bool true) ∧ ∃ Fa', Both2 w0 w' a b Fa' Fb s' t := by
  subst ht
  refine (write_any w a Fa s h.pa h.tab h.ta off 1 v ho hv).mono fun e w' ⟨he, k1⟩ => ?_
  rw [hk] at he k1
  exact ⟨he.trans (by rw [show okK k = true from decide_eq_true hk10]), h.turn k1⟩
theorem pl_off {t : US} {off : Int} (h0 : 2 ≤ off) (h8 : off < 8) : plK t off 1 = off.toNat := plK_off (by omega) h8 (fun h => by omega)
theorem pl_one {t : US} (h : t.lcr < 128) : plK t 1 1 = 1 := plK_off (off := 1) (by omega) (by omega) (fun h2 => by omega)
/-- Reading four registers. -/
def FourE (w0 : World) (a b : Nat) (s t : US) (x0 x1 x2 x3 : Int) (e : Ending) (w' : World) : Prop :=
  ∃ g off c Fa Fb, e = .returned (.slice (some ⟨g, off, none⟩) 4 c) ∧ 4 ≤ c ∧ (w'.cell? ⟨g, off, none⟩ = some (.int .u8 x0) ∧ w'.cell? ⟨g, off + 1, none⟩ = some (.int .u8 x1) ∧ w'.cell? ⟨g, off + 2, none⟩ = some (.int .u8 x2) ∧ w'.cell? ⟨g, off + 3, none⟩ = some (.int .u8 x3)) ∧ g < w'.heap.size ∧ Both2 w0 w' a b Fa Fb s t
theorem four_reads (w0 w : World) (a b : Nat) (Fa Fb : Nat → Prop) (s t : US) (h : Both2 w0 w a b Fa Fb s t) (p0 p1 p2 p3 x0 x1 x2 x3 : Int) (hp : ∀ o ∈ [p0, p1, p2, p3], 0 ≤ o ∧ o < 8) (hT : runT s [p0, p1, p2, p3] = s) (hX : runX s [p0, p1, p2, p3] = [x0, x1, x2, x3]) :
    Calls Tryd.prog 13 #[.pointer (some ⟨a, 0, none⟩), .slice (some ⟨w.heap.size, 0, none⟩) 4 4] (w.alloc (.cells #[.int .u64 p0, .int .u64 p1, .int .u64 p2, .int .u64 p3] 27)) (FourE w0 a b s t x0 x1 x2 x3) := by
  have h2 := h.below (below_alloc w (.cells #[.int .u64 p0, .int .u64 p1, .int .u64 p2, .int .u64 p3] 27))
  refine (reads_any _ a Fa s h2.pa w.heap.size [p0, p1, p2, p3] (fun j hj => ?_) (fun hi => by have := h.pa.lt _ hi; omega) (by rw [World.size_alloc]; omega) (by simp) (fun j hj => ?_)).mono ?_
  · rw [cell_of_row _ _ _ _ _ _ (heap_alloc_new w _)]
    have hj4 : j < 4 := hj
    have : j = 0 ∨ j = 1 ∨ j = 2 ∨ j = 3 := by omega
    rcases this with rfl | rfl | rfl | rfl <;> rfl
  · have hj4 : j < 4 := hj
    have : j = 0 ∨ j = 1 ∨ j = 2 ∨ j = 3 := by omega
    rcases this with rfl | rfl | rfl | rfl <;> exact hp _ (by simp)
  · rintro e w' ⟨p, c, he, hr, k⟩
    rw [hT] at k
    rw [hX] at hr
    obtain ⟨F', hk⟩ := h2.turn k
    obtain ⟨q, c', hv, hc1, hc2, hrd⟩ := hr.reads (by simp)
    injection hv with hv1 _ hv3
    subst hv1 hv3
    rcases hrd with ⟨_, _, h0⟩ | ⟨g, off, rfl, hlt, hcell⟩
    · cases h0
    · exact ⟨g, off, c, F', Fb, he, by simpa using hc1, ⟨by have := hcell 0 (by simp); simpa using this, by have := hcell 1 (by simp); simpa using this, by have := hcell 2 (by simp); simpa using this, by have := hcell 3 (by simp); simpa using this⟩, hlt, hk⟩
theorem four_T {s : US} {p0 p1 p2 p3 : Int} (h0 : stT s p0 = s) (h1 : stT s p1 = s) (h2 : stT s p2 = s) (h3 : stT s p3 = s) : runT s [p0, p1, p2, p3] = s := by
  show stT (stT (stT (stT s p0) p1) p2) p3 = s
  rw [h0, h1, h2, h3]
theorem four_X {s : US} {p0 p1 p2 p3 x0 x1 x2 x3 : Int} (h0 : stT s p0 = s) (h1 : stT s p1 = s) (h2 : stT s p2 = s) (e0 : rdX s (plK s p0 1) = x0) (e1 : rdX s (plK s p1 1) = x1) (e2 : rdX s (plK s p2 1) = x2) (e3 : rdX s (plK s p3 1) = x3) : runX s [p0, p1, p2, p3] = [x0, x1, x2, x3] := by
  show [rdX s (plK s p0 1), rdX (stT s p0) (plK (stT s p0) p1 1), rdX (stT (stT s p0) p1) (plK (stT (stT s p0) p1) p2 1), rdX (stT (stT (stT s p0) p1) p2) (plK (stT (stT (stT s p0) p1) p2) p3 1)] = _
  rw [h0, h1, h2, e0, e1, e2, e3]
theorem st_off {s : US} {o : Int} (k : Nat) (hk : plK s o 1 = k) (h : rdT s k = s) : stT s o = s := by unfold stT; rw [hk, h]
theorem x_off {s : US} {o x : Int} (k : Nat) (hk : plK s o 1 = k) (h : rdX s k = x) : rdX s (plK s o 1) = x := by rw [hk, h]

set_option maxRecDepth 100000 in
set_option maxHeartbeats 16000000 in
theorem uartStill_walk (l : Value) (xs : List ActV) (v : Int) (w : World) (hl : ActsIn w.heap.size w l xs) (hv : In64 v) (ht : Tab w) :
    Calls Tryd.prog 8 #[l, .int .u64 v] w fun e w' => e = .returned (.bool true) ∧ Below w.heap.size w w' := by
  have HL := Lib.hid hl
  have HT := Lib.hid ht
  have HV := Lib.hid hv
  obtain ⟨v0, v1⟩ := hv
  have HV0 := Lib.hid v0
  obtain ⟨al, cl, rfl, hll, _⟩ := hl
  have hll2 : xs.length ≤ 9223372036854775807 := by unfold maxLen at hll; omega
  clear hll ht v1
  by_cases hx60 : 100 < xs.length
  · have hd : decide ((100 : Int) < (xs.length : Int)) = true := by rw [decide_eq_true_eq]; omega
    go_enter Tryd.func8, Tryd.ntmps8
    go_wp2_with fail
    refine (awake_any _ HT.out).mono ?_
    rintro e w1 ⟨rfl, hb⟩
    have HB := Lib.hid hb
    clear hb
    go_wp2
    go_ret
    exact ⟨rfl, HB.out⟩
  have hd : decide ((100 : Int) < (xs.length : Int)) = false := by rw [decide_eq_false_iff_not]; omega
  clear hx60
  go_enter Tryd.func8, Tryd.ntmps8
  go_wp2_with fail
  refine (awake_any _ HT.out).mono ?_
  rintro e w1 ⟨rfl, hb⟩
  have HB := Lib.hid hb
  clear hb
  go_wp2_with fail
  refine (ownNew w _ HT.out HB.out).mono ?_
  rintro e w2 ⟨a, rfl, F, ho⟩
  have HO := Lib.hid ho
  clear ho
  go_wp2
  go_loopw [6] (fun i wr => ∃ k : Nat, k ≤ xs.length ∧ i = .int .i64 k ∧ ∃ F t, OwnU w wr a F t) (fun i _ => xs.length - (intOf i).toNat)
  case atStart => exact ⟨0, Nat.zero_le _, rfl, F, _, HO.out⟩
  case round =>
    obtain ⟨k, hk, rfl, F, t, hT⟩ := hrel
    replace HO := Lib.hid hT
    have hbr := hT.bel
    clear hT
    by_cases hlt : k < xs.length
    · obtain ⟨_, _, hv, _, hx⟩ := HL.out.below hbr
      injection hv with hv1 hv2 hv3
      subst hv1 hv3
      rcases hx with hx | ⟨bb, off, rfl, hbb, hc⟩
      · rw [hx] at hlt; simp at hlt
      obtain ⟨c0, c1, c2, c3, r0, r1, r2, r3⟩ := act_at (hc k hlt)
      have HC : Hid (ActAt wr.drew ⟨bb, off + k * 4, none⟩ xs[k]) := Lib.hid (hc k hlt)
      have hw : IntKind.u8.wrap xs[k].v = xs[k].v % 256 := wrap8 _ r3.1
      have HBX : Hid (0 ≤ xs[k].v % 256 ∧ xs[k].v % 256 < 256) := Lib.hid (by omega)
      have R1 := Lib.hid r1
      have R3 := Lib.hid r3
      clear hc hbr hv2 r0 r1 r2 r3
      generalize xs[k] = x at *
      obtain ⟨xd, xa, xn, xv⟩ := x
      simp only at c0 c1 c2 c3 hw HBX R1 R3
      generalize xv % 256 = y at *
      by_cases hx0 : xd = 0
      · subst hx0
        go_wp2_with fail
        go_still_tail 16, (by kernel_rfl)
        change wpList _ _ _ _ _ wr.drew
        have HO2 := Lib.hid (HO.out.below (belowD wr 1))
        change Hid (OwnU w wr.drew a F t) at HO2
        clear HO c0 c1 c2 c3
        generalize wr.drew = w3 at *
        obtain ⟨c0, c1, c2, c3, _⟩ := act_at HC.out
        simp only at c0 c1 c2 c3
        go_wp2_with fail
        (with_reducible refine (ownWrite w w3 a F t _ HO2.out xa xn xv _ R1.out R3.out rfl rfl).mono ?_)
        rintro e w4 ⟨rfl, F, ho⟩
        have HO3 := Lib.hid ho
        clear ho
        go_wp2
        exact ⟨⟨k + 1, by omega, by go_num, F, _, HO3.out⟩, by simp [intOf]; omega⟩
      have b0 : (xd == 0) = false := by simpa using hx0
      by_cases hx2 : xd = 2
      · subst hx2
        go_wp2_with fail
        (with_reducible refine (ownFeed w wr a F t _ HO.out y _ HBX.out rfl rfl).mono ?_)
        rintro e w4 ⟨rfl, F, ho⟩
        have HO3 := Lib.hid ho
        clear ho
        go_wp2
        exact ⟨⟨k + 1, by omega, by go_num, F, _, HO3.out⟩, by simp [intOf]; omega⟩
      have b2 : (xd == 2) = false := by simpa using hx2
      clear hx0 hx2
      go_wp2
      exact ⟨⟨k + 1, by omega, by go_num, F, _, HO.out⟩, by simp [intOf]; omega⟩
    · obtain rfl : k = xs.length := by omega
      clear hbr
      go_wp2_with fail
      (with_reducible refine (twin_any wr a F t HO.out.obj).mono ?_)
      rintro e w3 hM
      obtain ⟨b, he⟩ : ∃ b, e = .returned (.pointer (some ⟨b, 0, none⟩)) := by obtain ⟨b, _, _, _, he, _⟩ := hM; exact ⟨b, he⟩
      subst he
      obtain ⟨Fb, hq⟩ := Both2.made HO.out hM
      have HQ := Lib.hid hq
      clear hM hq HO
      go_wp2_with fail
      (with_reducible refine (same_any w3 a b F Fb t t HQ.out.pa HQ.out.pb).mono ?_)
      rintro e w4 ⟨rfl, hb⟩
      replace HQ := Lib.hid (HQ.out.below hb)
      have hsr := sameU_refl t
      clear hb
      have e3 : plK t 3 1 = 3 := pl_off (t := t) (off := 3) (by omega) (by omega)
      have e4 : plK t 4 1 = 4 := pl_off (t := t) (off := 4) (by omega) (by omega)
      have e5 : plK t 5 1 = 5 := pl_off (t := t) (off := 5) (by omega) (by omega)
      have e6 : plK t 6 1 = 6 := pl_off (t := t) (off := 6) (by omega) (by omega)
      have e7 : plK t 7 1 = 7 := pl_off (t := t) (off := 7) (by omega) (by omega)
      have E5 := Lib.hid e5
      have W5 : Hid (wrT t (v % 256) 5 = t) := Lib.hid rfl
      have W6 : Hid (wrT t (v % 256) 6 = t) := Lib.hid rfl
      have E6 := Lib.hid e6
      have E7 := Lib.hid e7
      have s3 := st_off 3 e3 rfl
      have s4 := st_off 4 e4 rfl
      have s6 := st_off 6 e6 rfl
      have s7 := st_off 7 e7 rfl
      have HRD := Lib.hid (four_reads w w4 a b F Fb t t HQ.out 3 4 6 7 t.lcr t.mcr 176 t.scr (by decide) (four_T s3 s4 s6 s7) (four_X s3 s4 s6 (x_off 3 e3 rfl) (x_off 4 e4 rfl) (x_off 6 e6 rfl) (x_off 7 e7 rfl)))
      have hmc := HQ.out.pa.ok.mcr
      have hm31 : decide ((31 : Int) < t.mcr) = false := by rw [decide_eq_false_iff_not]; omega
      clear e3 e4 e5 e6 e7 s3 s4 s6 s7 HQ hmc
      go_wp2_with fail
      (with_reducible refine (HRD.out).mono ?_)
      rintro e w5 ⟨g, og, c, F, Fb, rfl, hc4, ⟨d0, d1, d2, d3⟩, hg, hq⟩
      have HQ := Lib.hid hq
      clear hq HRD
      have x0 : 0 ≤ v % 256 := by omega
      have x1 : v % 256 < 256 := by omega
      go_wp2_with fail
      (with_reducible refine (twoWrite w w5 a b F Fb t t t HQ.out 5 v 5 in64_of HV.out E5.out (by decide) W5.out).mono ?_)
      rintro e w6 ⟨rfl, F, hq⟩
      replace HQ := Lib.hid hq
      clear hq d0 d1 d2 d3
      go_wp2_with fail
      (with_reducible refine (twoWrite w w6 a b F Fb t t t HQ.out 6 v 6 in64_of HV.out E6.out (by decide) W6.out).mono ?_)
      rintro e w7 ⟨rfl, F, hq⟩
      replace HQ := Lib.hid hq
      clear hq
      go_wp2_with fail
      (with_reducible refine (same_any w7 a b F Fb t t HQ.out.pa HQ.out.pb).mono ?_)
      rintro e w8 ⟨rfl, hb⟩
      replace HQ := Lib.hid (HQ.out.below hb)
      clear hb
      have HW8 : Hid (IntKind.u8.wrap v = v % 256) := Lib.hid (wrap8 v v0)
      have HY : Hid (0 ≤ v % 128 ∧ v % 128 < 128) := Lib.hid (by omega)
      have HXY : Hid (v % 256 % 128 = v % 128) := Lib.hid (by omega)
      have HYY : Hid (v % 128 % 256 = v % 128) := Lib.hid (by omega)
      have hvy : v % 128 = v % 128 := rfl
      obtain ⟨x, hx⟩ : ∃ x, v % 256 = x := ⟨_, rfl⟩
      obtain ⟨y, hy⟩ : ∃ y, v % 128 = y := ⟨_, rfl⟩
      rw [hx] at x0 x1 HW8 HXY
      rw [hy] at HY HXY HYY
      have HX := Lib.hid hx
      have HYV := Lib.hid hy
      have HX0 := Lib.hid x0
      have HX1 := Lib.hid x1
      have HTM : Hid (x.tmod 32 = x % 32 ∧ x.tmod 128 = y ∧ x.tmod 16 = x % 16) := Lib.hid ⟨Int.tmod_eq_emod_of_nonneg x0, by rw [Int.tmod_eq_emod_of_nonneg x0]; exact HXY.out, Int.tmod_eq_emod_of_nonneg x0⟩
      clear hvy hx x0 x1
      have HW7 : Hid (wrT t (v % 256) 7 = ({ t with scr := x } : US)) := Lib.hid (by rw [HX.out]; rfl)
      have HW4 : Hid (wrT ({ t with scr := x } : US) (v % 256) 4 = ({ t with scr := x, mcr := x % 32 } : US)) := Lib.hid (by rw [HX.out]; rfl)
      have HW3 : Hid (wrT ({ t with scr := x, mcr := x % 32 } : US) (y % 256) 3 = ({ t with scr := x, mcr := x % 32, lcr := y } : US)) := Lib.hid (by rw [HYY.out]; rfl)
      have HP4 : Hid (plK ({ t with scr := x } : US) 4 1 = 4) := Lib.hid (pl_off (off := 4) (by omega) (by omega))
      have HP3 : Hid (plK ({ t with scr := x, mcr := x % 32 } : US) 3 1 = 3) := Lib.hid (pl_off (off := 3) (by omega) (by omega))
      have HP1 : Hid (plK ({ t with scr := x, mcr := x % 32, lcr := y } : US) 1 1 = 1) := Lib.hid (pl_one HY.out.2)
      have HY64 : Hid (In64 y) := Lib.hid ⟨HY.out.1, by have := HY.out.2; omega⟩
      go_wp2_with fail
      (with_reducible refine (twoWrite w w8 a b F Fb t t { t with scr := x } HQ.out 7 v 7 in64_of HV.out E7.out (by decide) HW7.out).mono ?_)
      rintro e w9 ⟨rfl, F, hq⟩
      replace HQ := Lib.hid hq
      clear hq
      go_wp2_with fail
      (with_reducible refine (twoWrite w w9 a b F Fb _ t { t with scr := x, mcr := x % 32 } HQ.out 4 v 4 in64_of HV.out HP4.out (by decide) HW4.out).mono ?_)
      rintro e w10 ⟨rfl, F, hq⟩
      replace HQ := Lib.hid hq
      clear hq
      go_wp2_with fail
      (with_reducible refine (twoWrite w w10 a b F Fb _ t { t with scr := x, mcr := x % 32, lcr := y } HQ.out 3 y 3 in64_of HY64.out HP3.out (by decide) HW3.out).mono ?_)
      rintro e w11 ⟨rfl, F, hq⟩
      replace HQ := Lib.hid hq
      clear hq
      have HIER : Hid (∃ sn, ierT { t with scr := x, mcr := x % 32, lcr := y } x = { t with scr := x, mcr := x % 32, lcr := y, ier := x % 16, sent := sn }) := Lib.hid ⟨_, rfl⟩
      obtain ⟨sn, hsn⟩ := HIER.out
      have HSN := Lib.hid hsn
      have HW1 : Hid (wrT ({ t with scr := x, mcr := x % 32, lcr := y } : US) (v % 256) 1 = ({ t with scr := x, mcr := x % 32, lcr := y, ier := x % 16, sent := sn } : US)) := Lib.hid (by rw [HX.out]; exact HSN.out)
      clear hsn HIER
      go_wp2_with fail
      (with_reducible refine (twoWrite w w11 a b F Fb _ t { t with scr := x, mcr := x % 32, lcr := y, ier := x % 16, sent := sn } HQ.out 1 v 1 in64_of HV.out HP1.out (by decide) HW1.out).mono ?_)
      rintro e w12 ⟨rfl, F, hq⟩
      replace HQ := Lib.hid hq
      clear hq
      obtain ⟨s, hs⟩ : ∃ s : US, s = { t with scr := x, mcr := x % 32, lcr := y, ier := x % 16, sent := sn } := ⟨_, rfl⟩
      have HRD : Hid (Calls Tryd.prog 13 #[.pointer (some ⟨a, 0, none⟩), .slice (some ⟨w12.heap.size, 0, none⟩) 4 4] (w12.alloc (.cells #[.int .u64 7, .int .u64 4, .int .u64 3, .int .u64 1] 27)) (FourE w a b s t x (x % 32) y (x % 16))) := by
        refine Lib.hid ?_
        have e7 : plK s 7 1 = 7 := pl_off (t := s) (off := 7) (by omega) (by omega)
        have e4 : plK s 4 1 = 4 := pl_off (t := s) (off := 4) (by omega) (by omega)
        have e3 : plK s 3 1 = 3 := pl_off (t := s) (off := 3) (by omega) (by omega)
        have e1 : plK s 1 1 = 1 := pl_one (by rw [hs]; exact HY.out.2)
        have s7 := st_off 7 e7 rfl
        have s4 := st_off 4 e4 rfl
        have s3 := st_off 3 e3 rfl
        have s1 := st_off 1 e1 rfl
        exact four_reads w w12 a b F Fb s t (by rw [hs]; exact HQ.out) 7 4 3 1 x (x % 32) y (x % 16) (by decide) (four_T s7 s4 s3 s1) (four_X s7 s4 s3 (x_off 7 e7 (by rw [hs]; rfl)) (x_off 4 e4 (by rw [hs]; rfl)) (x_off 3 e3 (by rw [hs]; rfl)) (x_off 1 e1 (by rw [hs]; rfl)))
      have HSO : Hid (s.out = t.out ∧ s.inn = t.inn) := Lib.hid (by rw [hs]; exact ⟨rfl, rfl⟩)
      clear HQ hs HSN
      go_wp2_with fail
      (with_reducible refine (HRD.out).mono ?_)
      rintro e wr2 ⟨g2, og2, c9, F, Fb, rfl, hc9, hcells, hg2, hq⟩
      have HQ := Lib.hid hq
      have HCE : Hid (∀ wx, Below wr2.heap.size wr2 wx → wx.cell? ⟨g2, og2, none⟩ = some (.int .u8 x) ∧ wx.cell? ⟨g2, og2 + 1, none⟩ = some (.int .u8 (x % 32)) ∧ wx.cell? ⟨g2, og2 + 2, none⟩ = some (.int .u8 y) ∧ wx.cell? ⟨g2, og2 + 3, none⟩ = some (.int .u8 (x % 16))) :=
        Lib.hid fun wx hx => ⟨(hx.cell (p := ⟨g2, og2, none⟩) hg2).trans hcells.1, (hx.cell (p := ⟨g2, og2 + 1, none⟩) hg2).trans hcells.2.1, (hx.cell (p := ⟨g2, og2 + 2, none⟩) hg2).trans hcells.2.2.1, (hx.cell (p := ⟨g2, og2 + 3, none⟩) hg2).trans hcells.2.2.2⟩
      have hlo := HQ.out.pa.ok.lo
      have HO1 : Hid (∀ wx, Below wr2.heap.size wr2 wx → Calls Tryd.prog 14 #[.pointer (some ⟨a, 0, none⟩)] wx (CloneE wx s.out)) := Lib.hid fun wx hx => out_any wx a F s (HQ.out.pa.below hx)
      have HO2 : Hid (∀ wx, Below wr2.heap.size wr2 wx → Calls Tryd.prog 14 #[.pointer (some ⟨b, 0, none⟩)] wx (CloneE wx s.out)) := Lib.hid fun wx hx => by rw [HSO.out.1]; exact out_any wx b Fb t (HQ.out.pb.below hx)
      have HQ1 : Hid (∀ wx, Below wr2.heap.size wr2 wx → Calls Tryd.prog 15 #[.pointer (some ⟨a, 0, none⟩)] wx fun e w' => e = .returned (.int .i64 (s.inn.length : Int)) ∧ wx = w') := Lib.hid fun wx hx => by obtain ⟨_, _, hp⟩ := HQ.out.pa.below hx; exact waiting_any wx a F s _ _ hp
      have HQ2 : Hid (∀ wx, Below wr2.heap.size wr2 wx → Calls Tryd.prog 15 #[.pointer (some ⟨b, 0, none⟩)] wx fun e w' => e = .returned (.int .i64 (s.inn.length : Int)) ∧ wx = w') := Lib.hid fun wx hx => by rw [HSO.out.2]; obtain ⟨_, _, hp⟩ := HQ.out.pb.below hx; exact waiting_any wx b Fb t _ _ hp
      have HSTR : Hid (∀ wx u, RowB wx u s.out → (convert 28 9 u).run Tryd.prog wx = .ok (.string (strOfNums s.out)) wx) := Lib.hid fun wx u hu => conv_row hu (by omega)
      have HBEL := Lib.hid HQ.out.bel
      clear hlo hcells hg2 hq HRD hsr hm31 hc4 hg hy v0 HQ
      generalize strOfNums s.out = sO at *
      go_wp2_with fail
      refine wp_region_held_drew (S := fun wx => Below wr2.heap.size wr2 wx) (by kernel_rfl) ((Below.refl _ _).drew) (fun hHeld0 => ?_)
      have HS := Lib.hid hHeld0
      clear hHeld0
      refine takeD (i := 0) (some 124) (v := ?_) rfl rfl (by kernel_rfl) (by kernel_rfl) (by kernel_rfl) (fun _ _ _ h => h) (by rfl) HS.out ?_ ?_
      rotate_left
      · intro wx hSx
        clear hSx
        go_simp
        try (with_reducible rfl)
      simp only [Act.put, List.setIfInBounds_toArray, List.set_cons_zero, List.set_cons_succ]
      refine takeD (i := 1) (some 125) (v := ?_) rfl rfl (by kernel_rfl) (by kernel_rfl) (by kernel_rfl) (fun _ _ _ h => h) (by rfl) HS.out ?_ ?_
      rotate_left
      · intro wx hSx
        clear hSx
        go_simp
        try (with_reducible rfl)
      simp only [Act.put, List.setIfInBounds_toArray, List.set_cons_zero, List.set_cons_succ]
      refine takeD (i := 2) (some 126) (v := ?_) rfl rfl (by kernel_rfl) (by kernel_rfl) (by kernel_rfl) (fun _ _ _ h => h) (by rfl) HS.out ?_ ?_
      rotate_left
      · intro wx hSx
        clear hSx
        go_simp
        try (with_reducible rfl)
      simp only [Act.put, List.setIfInBounds_toArray, List.set_cons_zero, List.set_cons_succ]
      refine takeD (i := 3) (some 127) (v := ?_) rfl rfl (by kernel_rfl) (by kernel_rfl) (by kernel_rfl) (fun _ _ _ h => h) (by rfl) HS.out ?_ ?_
      rotate_left
      · intro wx hSx
        clear hSx
        go_simp
        try (with_reducible rfl)
      simp only [Act.put, List.setIfInBounds_toArray, List.set_cons_zero, List.set_cons_succ]
      refine takeD (i := 4) (some 128) (v := ?_) rfl rfl (by kernel_rfl) (by kernel_rfl) (by kernel_rfl) (fun _ _ _ h => h) (by rfl) HS.out ?_ ?_
      rotate_left
      · intro wx hSx
        clear hSx
        go_simp
        try (with_reducible rfl)
      simp only [Act.put, List.setIfInBounds_toArray, List.set_cons_zero, List.set_cons_succ]
      refine takeD (i := 5) (some 129) (v := ?_) rfl rfl (by kernel_rfl) (by kernel_rfl) (by kernel_rfl) (fun _ _ _ h => h) (by rfl) HS.out ?_ ?_
      rotate_left
      · intro wx hSx
        clear hSx
        go_simp
        try (with_reducible rfl)
      simp only [Act.put, List.setIfInBounds_toArray, List.set_cons_zero, List.set_cons_succ]
      refine takeD (i := 6) (some 130) (v := ?_) rfl rfl (by kernel_rfl) (by kernel_rfl) (by kernel_rfl) (fun _ _ _ h => h) (by rfl) HS.out ?_ ?_
      rotate_left
      · intro wx hSx
        obtain ⟨k0, k1, k2, k3⟩ := HCE.out wx hSx
        clear hSx
        go_simp
        try (with_reducible rfl)
      simp only [Act.put, List.setIfInBounds_toArray, List.set_cons_zero, List.set_cons_succ]
      refine takeD (i := 7) (some 131) (v := ?_) rfl rfl (by kernel_rfl) (by kernel_rfl) (by kernel_rfl) (fun _ _ _ h => h) (by rfl) HS.out ?_ ?_
      rotate_left
      · intro wx hSx
        clear hSx
        go_simp
        try (with_reducible rfl)
      simp only [Act.put, List.setIfInBounds_toArray, List.set_cons_zero, List.set_cons_succ]
      refine takeD (i := 8) (some 132) (v := ?_) rfl rfl (by kernel_rfl) (by kernel_rfl) (by kernel_rfl) (fun _ _ _ h => h) (by rfl) HS.out ?_ ?_
      rotate_left
      · intro wx hSx
        have hw9 := HW8.out
        clear hSx
        go_simp
        try (with_reducible rfl)
      simp only [Act.put, List.setIfInBounds_toArray, List.set_cons_zero, List.set_cons_succ]
      refine takeD (i := 9) (some 133) (v := ?_) rfl rfl (by kernel_rfl) (by kernel_rfl) (by kernel_rfl) (fun _ _ _ h => h) (by rfl) HS.out ?_ ?_
      rotate_left
      · intro wx hSx
        clear hSx
        go_simp
        try (with_reducible rfl)
      simp only [Act.put, List.setIfInBounds_toArray, List.set_cons_zero, List.set_cons_succ]
      refine takeD (i := 10) (some 134) (v := ?_) rfl rfl (by kernel_rfl) (by kernel_rfl) (by kernel_rfl) (fun _ _ _ h => h) (by rfl) HS.out ?_ ?_
      rotate_left
      · intro wx hSx
        clear hSx
        go_simp
        try (with_reducible rfl)
      simp only [Act.put, List.setIfInBounds_toArray, List.set_cons_zero, List.set_cons_succ]
      refine takeD (i := 11) (some 135) (v := ?_) rfl rfl (by kernel_rfl) (by kernel_rfl) (by kernel_rfl) (fun _ _ _ h => h) (by rfl) HS.out ?_ ?_
      rotate_left
      · intro wx hSx
        clear hSx
        go_simp
        try (with_reducible rfl)
      simp only [Act.put, List.setIfInBounds_toArray, List.set_cons_zero, List.set_cons_succ]
      refine takeD (i := 12) (some 136) (v := ?_) rfl rfl (by kernel_rfl) (by kernel_rfl) (by kernel_rfl) (fun _ _ _ h => h) (by rfl) HS.out ?_ ?_
      rotate_left
      · intro wx hSx
        clear hSx
        go_simp
        try (with_reducible rfl)
      simp only [Act.put, List.setIfInBounds_toArray, List.set_cons_zero, List.set_cons_succ]
      refine takeD (i := 13) (some 137) (v := ?_) rfl rfl (by kernel_rfl) (by kernel_rfl) (by kernel_rfl) (fun _ _ _ h => h) (by rfl) HS.out ?_ ?_
      rotate_left
      · intro wx hSx
        clear hSx
        go_simp
        try (with_reducible rfl)
      simp only [Act.put, List.setIfInBounds_toArray, List.set_cons_zero, List.set_cons_succ]
      refine takeD (i := 14) (some 138) (v := ?_) rfl rfl (by kernel_rfl) (by kernel_rfl) (by kernel_rfl) (fun _ _ _ h => h) (by rfl) HS.out ?_ ?_
      rotate_left
      · intro wx hSx
        obtain ⟨k0, k1, k2, k3⟩ := HCE.out wx hSx
        clear hSx
        go_simp
        try (with_reducible rfl)
      simp only [Act.put, List.setIfInBounds_toArray, List.set_cons_zero, List.set_cons_succ]
      refine takeD (i := 15) (some 139) (v := ?_) rfl rfl (by kernel_rfl) (by kernel_rfl) (by kernel_rfl) (fun _ _ _ h => h) (by rfl) HS.out ?_ ?_
      rotate_left
      · intro wx hSx
        clear hSx
        go_simp
        try (with_reducible rfl)
      simp only [Act.put, List.setIfInBounds_toArray, List.set_cons_zero, List.set_cons_succ]
      refine takeD (i := 16) (some 140) (v := ?_) rfl rfl (by kernel_rfl) (by kernel_rfl) (by kernel_rfl) (fun _ _ _ h => h) (by rfl) HS.out ?_ ?_
      rotate_left
      · intro wx hSx
        have hw9 := HW8.out
        clear hSx
        go_simp
        try (with_reducible rfl)
      simp only [Act.put, List.setIfInBounds_toArray, List.set_cons_zero, List.set_cons_succ]
      refine takeD (i := 17) (some 141) (v := ?_) rfl rfl (by kernel_rfl) (by kernel_rfl) (by kernel_rfl) (fun _ _ _ h => h) (by rfl) HS.out ?_ ?_
      rotate_left
      · intro wx hSx
        obtain ⟨m1, m2, m3⟩ := HTM.out
        clear hSx
        go_simp
        try (with_reducible rfl)
      simp only [Act.put, List.setIfInBounds_toArray, List.set_cons_zero, List.set_cons_succ]
      refine takeD (i := 18) (some 142) (v := ?_) rfl rfl (by kernel_rfl) (by kernel_rfl) (by kernel_rfl) (fun _ _ _ h => h) (by rfl) HS.out ?_ ?_
      rotate_left
      · intro wx hSx
        clear hSx
        go_simp
        try (with_reducible rfl)
      simp only [Act.put, List.setIfInBounds_toArray, List.set_cons_zero, List.set_cons_succ]
      refine takeD (i := 19) (some 143) (v := ?_) rfl rfl (by kernel_rfl) (by kernel_rfl) (by kernel_rfl) (fun _ _ _ h => h) (by rfl) HS.out ?_ ?_
      rotate_left
      · intro wx hSx
        clear hSx
        go_simp
        try (with_reducible rfl)
      simp only [Act.put, List.setIfInBounds_toArray, List.set_cons_zero, List.set_cons_succ]
      refine takeD (i := 20) (some 144) (v := ?_) rfl rfl (by kernel_rfl) (by kernel_rfl) (by kernel_rfl) (fun _ _ _ h => h) (by rfl) HS.out ?_ ?_
      rotate_left
      · intro wx hSx
        clear hSx
        go_simp
        try (with_reducible rfl)
      simp only [Act.put, List.setIfInBounds_toArray, List.set_cons_zero, List.set_cons_succ]
      refine takeD (i := 21) (some 145) (v := ?_) rfl rfl (by kernel_rfl) (by kernel_rfl) (by kernel_rfl) (fun _ _ _ h => h) (by rfl) HS.out ?_ ?_
      rotate_left
      · intro wx hSx
        clear hSx
        go_simp
        try (with_reducible rfl)
      simp only [Act.put, List.setIfInBounds_toArray, List.set_cons_zero, List.set_cons_succ]
      refine takeD (i := 22) (some 146) (v := ?_) rfl rfl (by kernel_rfl) (by kernel_rfl) (by kernel_rfl) (fun _ _ _ h => h) (by rfl) HS.out ?_ ?_
      rotate_left
      · intro wx hSx
        clear hSx
        go_simp
        try (with_reducible rfl)
      simp only [Act.put, List.setIfInBounds_toArray, List.set_cons_zero, List.set_cons_succ]
      refine takeD (i := 23) (some 147) (v := ?_) rfl rfl (by kernel_rfl) (by kernel_rfl) (by kernel_rfl) (fun _ _ _ h => h) (by rfl) HS.out ?_ ?_
      rotate_left
      · intro wx hSx
        obtain ⟨k0, k1, k2, k3⟩ := HCE.out wx hSx
        clear hSx
        go_simp
        try (with_reducible rfl)
      simp only [Act.put, List.setIfInBounds_toArray, List.set_cons_zero, List.set_cons_succ]
      refine takeD (i := 24) (some 148) (v := ?_) rfl rfl (by kernel_rfl) (by kernel_rfl) (by kernel_rfl) (fun _ _ _ h => h) (by rfl) HS.out ?_ ?_
      rotate_left
      · intro wx hSx
        clear hSx
        go_simp
        try (with_reducible rfl)
      simp only [Act.put, List.setIfInBounds_toArray, List.set_cons_zero, List.set_cons_succ]
      refine takeD (i := 25) (some 149) (v := ?_) rfl rfl (by kernel_rfl) (by kernel_rfl) (by kernel_rfl) (fun _ _ _ h => h) (by rfl) HS.out ?_ ?_
      rotate_left
      · intro wx hSx
        have hw9 := HW8.out
        clear hSx
        go_simp
        try (with_reducible rfl)
      simp only [Act.put, List.setIfInBounds_toArray, List.set_cons_zero, List.set_cons_succ]
      refine takeD (i := 26) (some 150) (v := ?_) rfl rfl (by kernel_rfl) (by kernel_rfl) (by kernel_rfl) (fun _ _ _ h => h) (by rfl) HS.out ?_ ?_
      rotate_left
      · intro wx hSx
        obtain ⟨m1, m2, m3⟩ := HTM.out
        clear hSx
        go_simp
        try (with_reducible rfl)
      simp only [Act.put, List.setIfInBounds_toArray, List.set_cons_zero, List.set_cons_succ]
      refine takeD (i := 27) (some 151) (v := ?_) rfl rfl (by kernel_rfl) (by kernel_rfl) (by kernel_rfl) (fun _ _ _ h => h) (by rfl) HS.out ?_ ?_
      rotate_left
      · intro wx hSx
        clear hSx
        go_simp
        try (with_reducible rfl)
      simp only [Act.put, List.setIfInBounds_toArray, List.set_cons_zero, List.set_cons_succ]
      refine takeD (i := 28) (some 152) (v := ?_) rfl rfl (by kernel_rfl) (by kernel_rfl) (by kernel_rfl) (fun _ _ _ h => h) (by rfl) HS.out ?_ ?_
      rotate_left
      · intro wx hSx
        clear hSx
        go_simp
        try (with_reducible rfl)
      simp only [Act.put, List.setIfInBounds_toArray, List.set_cons_zero, List.set_cons_succ]
      refine takeD (i := 29) (some 153) (v := ?_) rfl rfl (by kernel_rfl) (by kernel_rfl) (by kernel_rfl) (fun _ _ _ h => h) (by rfl) HS.out ?_ ?_
      rotate_left
      · intro wx hSx
        clear hSx
        go_simp
        try (with_reducible rfl)
      simp only [Act.put, List.setIfInBounds_toArray, List.set_cons_zero, List.set_cons_succ]
      refine takeD (i := 30) (some 154) (v := ?_) rfl rfl (by kernel_rfl) (by kernel_rfl) (by kernel_rfl) (fun _ _ _ h => h) (by rfl) HS.out ?_ ?_
      rotate_left
      · intro wx hSx
        clear hSx
        go_simp
        try (with_reducible rfl)
      simp only [Act.put, List.setIfInBounds_toArray, List.set_cons_zero, List.set_cons_succ]
      refine takeD (i := 31) (some 155) (v := ?_) rfl rfl (by kernel_rfl) (by kernel_rfl) (by kernel_rfl) (fun _ _ _ h => h) (by rfl) HS.out ?_ ?_
      rotate_left
      · intro wx hSx
        clear hSx
        go_simp
        try (with_reducible rfl)
      simp only [Act.put, List.setIfInBounds_toArray, List.set_cons_zero, List.set_cons_succ]
      refine takeD (i := 32) (some 156) (v := ?_) rfl rfl (by kernel_rfl) (by kernel_rfl) (by kernel_rfl) (fun _ _ _ h => h) (by rfl) HS.out ?_ ?_
      rotate_left
      · intro wx hSx
        obtain ⟨k0, k1, k2, k3⟩ := HCE.out wx hSx
        clear hSx
        go_simp
        try (with_reducible rfl)
      simp only [Act.put, List.setIfInBounds_toArray, List.set_cons_zero, List.set_cons_succ]
      refine takeD (i := 33) (some 157) (v := ?_) rfl rfl (by kernel_rfl) (by kernel_rfl) (by kernel_rfl) (fun _ _ _ h => h) (by rfl) HS.out ?_ ?_
      rotate_left
      · intro wx hSx
        clear hSx
        go_simp
        try (with_reducible rfl)
      simp only [Act.put, List.setIfInBounds_toArray, List.set_cons_zero, List.set_cons_succ]
      refine takeD (i := 34) (some 158) (v := ?_) rfl rfl (by kernel_rfl) (by kernel_rfl) (by kernel_rfl) (fun _ _ _ h => h) (by rfl) HS.out ?_ ?_
      rotate_left
      · intro wx hSx
        have hw9 := HW8.out
        clear hSx
        go_simp
        try (with_reducible rfl)
      simp only [Act.put, List.setIfInBounds_toArray, List.set_cons_zero, List.set_cons_succ]
      refine takeD (i := 35) (some 159) (v := ?_) rfl rfl (by kernel_rfl) (by kernel_rfl) (by kernel_rfl) (fun _ _ _ h => h) (by rfl) HS.out ?_ ?_
      rotate_left
      · intro wx hSx
        obtain ⟨m1, m2, m3⟩ := HTM.out
        clear hSx
        go_simp
        try (with_reducible rfl)
      simp only [Act.put, List.setIfInBounds_toArray, List.set_cons_zero, List.set_cons_succ]
      refine takeD (i := 36) (some 160) (v := ?_) rfl rfl (by kernel_rfl) (by kernel_rfl) (by kernel_rfl) (fun _ _ _ h => h) (by rfl) HS.out ?_ ?_
      rotate_left
      · intro wx hSx
        clear hSx
        go_simp
        try (with_reducible rfl)
      simp only [Act.put, List.setIfInBounds_toArray, List.set_cons_zero, List.set_cons_succ]
      refine takeD (i := 37) (some 161) (v := ?_) rfl rfl (by kernel_rfl) (by kernel_rfl) (by kernel_rfl) (fun _ _ _ h => h) (by rfl) HS.out ?_ ?_
      rotate_left
      · intro wx hSx
        clear hSx
        go_simp
        try (with_reducible rfl)
      simp only [Act.put, List.setIfInBounds_toArray, List.set_cons_zero, List.set_cons_succ]
      refine takeD (i := 38) (some 162) (v := ?_) rfl rfl (by kernel_rfl) (by kernel_rfl) (by kernel_rfl) (fun _ _ _ h => h) (by rfl) HS.out ?_ ?_
      rotate_left
      · intro wx hSx
        clear hSx
        go_simp
        try (with_reducible rfl)
      simp only [Act.put, List.setIfInBounds_toArray, List.set_cons_zero, List.set_cons_succ]
      refine takeD (i := 39) (some 163) (v := ?_) rfl rfl (by kernel_rfl) (by kernel_rfl) (by kernel_rfl) (fun _ _ _ h => h) (by rfl) HS.out ?_ ?_
      rotate_left
      · intro wx hSx
        clear hSx
        go_simp
        try (with_reducible rfl)
      simp only [Act.put, List.setIfInBounds_toArray, List.set_cons_zero, List.set_cons_succ]
      refine takeD (i := 42) (some 166) (v := ?_) rfl rfl (by kernel_rfl) (by kernel_rfl) (by kernel_rfl) (fun _ _ _ h => h) (by rfl) HS.out ?_ ?_
      rotate_left
      · intro wx hSx
        clear hSx
        go_simp
        try (with_reducible rfl)
      simp only [Act.put, List.setIfInBounds_toArray, List.set_cons_zero, List.set_cons_succ]
      refine wpAnyH_ready (rs := [40]) (by kernel_rfl) (by simp) ?_
      refine AllReadyH.cons rfl (fun K hK => ?_) AllReadyH.nil
      go_simp
      (with_reducible refine (HO1.out _ HS.out).mono ?_)
      rintro e w5 ⟨a5, c5, rfl, hb5, hr5, _⟩
      have HB5 : Hid (Below wr2.heap.size wr2 w5) := Lib.hid (HS.out.trans (hb5.mono HS.out.size))
      have HCV1 : Hid (∀ wx, Below w5.heap.size w5 wx → (convert 28 9 (.slice a5 s.out.length c5)).run Tryd.prog wx = .ok (.string sO) wx) := Lib.hid fun wx hx => HSTR.out wx _ (hr5.below hx)
      clear hb5 hr5
      go_simp
      refine hK.out _ _ ?_ (fun hHeld => ?_)
      · exact HB5.out
      clear hHeld hK K
      try simp only [Act.put, List.setIfInBounds_toArray, List.set_cons_zero, List.set_cons_succ]
      replace HS := HB5
      refine wpAnyH_more (T := fun wx => Below w5.heap.size w5 wx) (fun wx hx => HB5.out.trans (hx.mono HB5.out.size)) _ _ _ _ ?_
      replace HS : Hid (Below w5.heap.size w5 w5) := Lib.hid (Below.refl _ _)
      refine takeD (i := 41) (some 165) (v := ?_) rfl rfl (by kernel_rfl) (by kernel_rfl) (by kernel_rfl) (fun _ _ _ h => h) (by rfl) HS.out ?_ ?_
      rotate_left
      · intro wx hSx
        have hcv := HCV1.out wx hSx
        clear hSx
        go_simp
        try (with_reducible rfl)
      simp only [Act.put, List.setIfInBounds_toArray, List.set_cons_zero, List.set_cons_succ]
      refine wpAnyH_ready (rs := [43]) (by kernel_rfl) (by simp) ?_
      refine AllReadyH.cons rfl (fun K hK => ?_) AllReadyH.nil
      go_simp
      (with_reducible refine (HO2.out _ (HB5.out.trans (HS.out.mono HB5.out.size))).mono ?_)
      rintro e w6 ⟨a6, c6, rfl, hb6, hr6, _⟩
      have HS6 : Hid (Below w5.heap.size w5 w6) := Lib.hid (HS.out.trans (hb6.mono HS.out.size))
      have HB6 : Hid (Below wr2.heap.size wr2 w6) := Lib.hid (HB5.out.trans (HS6.out.mono HB5.out.size))
      have HCV2 : Hid (∀ wx, Below w6.heap.size w6 wx → (convert 28 9 (.slice a6 s.out.length c6)).run Tryd.prog wx = .ok (.string sO) wx) := Lib.hid fun wx hx => HSTR.out wx _ (hr6.below hx)
      clear hb6 hr6
      go_simp
      refine hK.out _ _ ?_ (fun hHeld => ?_)
      · exact HS6.out
      clear hHeld hK K
      try simp only [Act.put, List.setIfInBounds_toArray, List.set_cons_zero, List.set_cons_succ]
      replace HS := HS6
      refine wpAnyH_more (T := fun wx => Below w6.heap.size w6 wx) (fun wx hx => HS6.out.trans (hx.mono HS6.out.size)) _ _ _ _ ?_
      replace HS : Hid (Below w6.heap.size w6 w6) := Lib.hid (Below.refl _ _)
      refine takeD (i := 44) (some 168) (v := ?_) rfl rfl (by kernel_rfl) (by kernel_rfl) (by kernel_rfl) (fun _ _ _ h => h) (by rfl) HS.out ?_ ?_
      rotate_left
      · intro wx hSx
        have hcv := HCV2.out wx hSx
        clear hSx
        go_simp
        try (with_reducible rfl)
      simp only [Act.put, List.setIfInBounds_toArray, List.set_cons_zero, List.set_cons_succ]
      refine takeD (i := 45) (some 169) (v := ?_) rfl rfl (by kernel_rfl) (by kernel_rfl) (by kernel_rfl) (fun _ _ _ h => h) (by rfl) HS.out ?_ ?_
      rotate_left
      · intro wx hSx
        clear hSx
        go_simp
        try (with_reducible rfl)
      simp only [Act.put, List.setIfInBounds_toArray, List.set_cons_zero, List.set_cons_succ]
      refine takeD (i := 46) (some 170) (v := ?_) rfl rfl (by kernel_rfl) (by kernel_rfl) (by kernel_rfl) (fun _ _ _ h => h) (by rfl) HS.out ?_ ?_
      rotate_left
      · intro wx hSx
        clear hSx
        go_simp
        try (with_reducible rfl)
      simp only [Act.put, List.setIfInBounds_toArray, List.set_cons_zero, List.set_cons_succ]
      refine takeD (i := 47) (some 171) (v := ?_) rfl rfl (by kernel_rfl) (by kernel_rfl) (by kernel_rfl) (fun _ _ _ h => h) (by rfl) HS.out ?_ ?_
      rotate_left
      · intro wx hSx
        clear hSx
        go_simp
        try (with_reducible rfl)
      simp only [Act.put, List.setIfInBounds_toArray, List.set_cons_zero, List.set_cons_succ]
      refine takeD (i := 48) (some 172) (v := ?_) rfl rfl (by kernel_rfl) (by kernel_rfl) (by kernel_rfl) (fun _ _ _ h => h) (by rfl) HS.out ?_ ?_
      rotate_left
      · intro wx hSx
        clear hSx
        go_simp
        try (with_reducible rfl)
      simp only [Act.put, List.setIfInBounds_toArray, List.set_cons_zero, List.set_cons_succ]
      refine takeD (i := 50) (some 174) (v := ?_) rfl rfl (by kernel_rfl) (by kernel_rfl) (by kernel_rfl) (fun _ _ _ h => h) (by rfl) HS.out ?_ ?_
      rotate_left
      · intro wx hSx
        clear hSx
        go_simp
        try (with_reducible rfl)
      simp only [Act.put, List.setIfInBounds_toArray, List.set_cons_zero, List.set_cons_succ]
      refine wpAnyH_ready (rs := [49]) (by kernel_rfl) (by simp) ?_
      refine AllReadyH.cons rfl (fun K hK => ?_) AllReadyH.nil
      go_simp
      (with_reducible refine (HQ1.out _ (HB6.out.trans (HS.out.mono HB6.out.size))).mono ?_)
      rintro e wq ⟨rfl, rfl⟩
      go_simp
      refine hK.out _ _ ?_ (fun hHeld => ?_)
      · exact HS.out
      clear hHeld hK K
      try simp only [Act.put, List.setIfInBounds_toArray, List.set_cons_zero, List.set_cons_succ]
      refine wpAnyH_ready (rs := [51]) (by kernel_rfl) (by simp) ?_
      refine AllReadyH.cons rfl (fun K hK => ?_) AllReadyH.nil
      go_simp
      (with_reducible refine (HQ2.out _ (HB6.out.trans (HS.out.mono HB6.out.size))).mono ?_)
      rintro e wq ⟨rfl, rfl⟩
      go_simp
      refine hK.out _ _ ?_ (fun hHeld => ?_)
      · exact HS.out
      clear hHeld hK K
      try simp only [Act.put, List.setIfInBounds_toArray, List.set_cons_zero, List.set_cons_succ]
      refine takeD (i := 52) (some 176) (v := ?_) rfl rfl (by kernel_rfl) (by kernel_rfl) (by kernel_rfl) (fun _ _ _ h => h) (by rfl) HS.out ?_ ?_
      rotate_left
      · intro wx hSx
        clear hSx
        go_simp
        try (with_reducible rfl)
      simp only [Act.put, List.setIfInBounds_toArray, List.set_cons_zero, List.set_cons_succ]
      refine takeD (i := 53) (some 177) (v := ?_) rfl rfl (by kernel_rfl) (by kernel_rfl) (by kernel_rfl) (fun _ _ _ h => h) (by rfl) HS.out ?_ ?_
      rotate_left
      · intro wx hSx
        clear hSx
        go_simp
        try (with_reducible rfl)
      simp only [Act.put, List.setIfInBounds_toArray, List.set_cons_zero, List.set_cons_succ]
      refine takeD (i := 54) (some 4) (v := ?_) rfl rfl (by kernel_rfl) (by kernel_rfl) (by kernel_rfl) (fun _ _ _ h => h) (by rfl) HS.out ?_ ?_
      rotate_left
      · intro wx hSx
        clear hSx
        go_simp
        try (with_reducible rfl)
      simp only [Act.put, List.setIfInBounds_toArray, List.set_cons_zero, List.set_cons_succ]
      refine wpAnyH_done (by kernel_rfl) ?_ _
      go_wp2
      go_ret
      exact ⟨rfl, HBEL.out.trans (HB6.out.mono HBEL.out.size)⟩

end Go.Proofs.YtcbjfkbmbjmnbaaDoor
