/- Layer 5's law PlicOnce: a reading, of a claim or of something else. -/
import Derived.Test.YtgimnkablodheaaDoorPlStands
import Derived.Deep.LoopGhost
namespace Go.Proofs.YtgimnkablodheaaDoor
open Go.RowKit
set_option linter.unusedVariables false

/-- The plic t in block b, where only it has turned since w1. -/
structure AtP (w1 w : World) (b : Nat) (t : PS) : Prop where
  only : Only (fun i => i = b) w1 w
  pc : ProgP w b t
  tab : Tab w
  nb : ¬ b = 0
theorem AtP.ok {w1 w : World} {b : Nat} {t : PS} (h : AtP w1 w b t) : t.ok := h.pc.2
theorem AtP.row {w1 w : World} {b : Nat} {t : PS} (h : AtP w1 w b t) : w.heap[b]? = some (.cells (varr 39 (cellQ t)) 27 (0, 0)) := h.pc.1
theorem AtP.turn {w1 w w' : World} {b : Nat} {t t' : PS} (h : AtP w1 w b t) (k : Only (fun i => i = b) w w') (hp : ProgP w' b t') : AtP w1 w' b t' :=
  ⟨h.only.trans k, hp, h.tab.keeps k (fun e => h.nb e.symm), h.nb⟩
theorem AtP.below {w1 w w' : World} {b : Nat} {t : PS} (h : AtP w1 w b t) (k : Below w.heap.size w w') : AtP w1 w' b t := ⟨h.only.thenBelow k, h.pc.below k, h.tab.below k, h.nb⟩
theorem AtP.cell {w1 w : World} {b : Nat} {t : PS} (h : AtP w1 w b t) {c o : Nat} (hn : ¬ c = b) {v : Value} (hc : w1.cell? ⟨c, o, none⟩ = some v) : w.cell? ⟨c, o, none⟩ = some v := only_cell h.only hn hc
def ClaimsEnd (w : World) (b g : Nat) (t' : PS) (e : Ending) (w' : World) : Prop := e = .returned (.bool true) ∧ Only (fun i => i = b ∨ i = g) w w' ∧ ProgP w' b t' ∧ BusyA w' g t'
theorem plc_at {k : Nat} (hk : k < 32) : plcK (4 * (k : Int)) 4 = (0, k) := by
  unfold plcK
  rw [if_pos rfl, if_pos ⟨by omega, by omega⟩, show (4 * (k : Int) / 4).toNat = k by omega]
theorem in_at {k : Nat} (hk : k < 32) : In64 (4 * (k : Int)) := by unfold In64; omega
/-- A reading of a priority. -/
theorem prio_is (w : World) (b : Nat) (t : PS) {k : Nat} (hk : k < 32) (x : Int) (hx : t.prio k = x) (h : ProgP w b t) (ht : Tab w) :
    Calls Tryd.prog 12 #[.pointer (some ⟨b, 0, none⟩), .int .u64 (4 * (k : Int)), .int .i64 4] w (ProgEnd w b (.tuple #[.int .u64 x, .bool true]) t) := by
  have k1 := read_any w b t h ht (4 * (k : Int)) 4 (in_at hk)
  rw [plc_at hk] at k1
  subst hx; exact k1
theorem BusyA.claim {w : World} {g : Nat} {t : PS} (h : BusyA w g t) {k : Nat} (hk : ¬ k = 0) : BusyA (w.setCell ⟨g, k, none⟩ (.bool true)) g (claimed t k) := by
  have h1 := HoldsB.set h k true
  refine h1.congr fun i _ => ?_
  have e : (claimed t k).busy i = upd t.busy k true i := by unfold claimed; rw [if_neg hk]; rfl
  rw [e]; rfl
theorem BusyA.same {w : World} {g : Nat} {t t' : PS} (h : BusyA w g t) (e : ∀ s, s < 32 → t.busy s = t'.busy s) : BusyA w g t' := HoldsB.congr h e
theorem claimed_none (t : PS) : claimed t 0 = t := if_pos rfl
theorem best_in (t : PS) (c : Nat) (hc : c < 2) : BestIn t c 1 31 (bestC t (c : Int)) := by
  unfold bestC; rw [if_pos (by omega), Int.toNat_natCast]; exact bestTo_best t c 31 (by omega)
set_option maxHeartbeats 2000000 in
theorem claims_other (w : World) (b g : Nat) (t : PS) (x : ActV) (ctx : Int) (hp : ProgP w b t) (hg : BusyA w g t) (ht : Tab w) (hgb : ¬ g = b) (hb0 : ¬ b = 0) (r1 : In64 x.a) (hc : ctx < 0) (hk : ¬ (plcK x.a x.n).1 = 4) :
    Calls Tryd.prog 20 #[.pointer (some ⟨b, 0, none⟩), .pointer (some ⟨g, 0, none⟩), actVal x, .int .i64 ctx] w (ClaimsEnd w b g (rdT t (plcK x.a x.n))) := by
  have k0 := (Below.refl w.heap.size w).alloc (Nat.le_refl _) (.cells #[.int .i64 x.d, .int .u64 x.a, .int .i64 x.n, .int .u64 x.v, .int .i64 x.s, .bool x.u] 47)
  have HP := Lib.hid (hp.below k0)
  have HG := Lib.hid (show BusyA _ g t from hg.below k0 hg.lt)
  have HT := Lib.hid (ht.below k0)
  have HB := Lib.hid k0
  have HE : Hid (rdT t (plcK x.a x.n) = t) := Lib.hid (by
    unfold rdT; split
    · rename_i h; exact absurd h hk
    · rfl)
  have R1 := Lib.hid r1
  obtain ⟨xd, xa, xn, xv, xs, xu⟩ := x
  unfold actVal
  simp only at HP HG HT HB HE R1 ⊢
  clear hp hg ht k0 hk r1
  go_enter Tryd.func20, Tryd.ntmps20
  go_wp2_with fail
  generalize w.alloc (.cells #[.int .i64 xd, .int .u64 xa, .int .i64 xn, .int .u64 xv, .int .i64 xs, .bool xu] 47) = w1 at *
  (with_reducible refine (read_any w1 b t HP.out HT.out xa xn R1.out).mono ?_)
  rintro e w2 ⟨rfl, ho, hp2⟩
  have HO := Lib.hid ((Only.of_below (fun i => i = b) HB.out).trans ho)
  have HG2 : Hid (BusyA w2 g t) := Lib.hid (ho.keeps hgb HG.out)
  have HP2 := Lib.hid hp2
  clear ho hp2
  go_wp2
  go_ret
  exact ⟨rfl, HO.out.mono (fun i hi => .inl (.inl hi)), HP2.out, by rw [HE.out]; exact HG2.out⟩
set_option maxHeartbeats 2000000 in
theorem claims_len (w : World) (b g : Nat) (t : PS) (x : ActV) (ctx : Int) (hp : ProgP w b t) (hg : BusyA w g t) (ht : Tab w) (hgb : ¬ g = b) (hb0 : ¬ b = 0) (r1 : In64 x.a) (hc : 0 ≤ ctx) (hn : ¬ x.n = 4) :
    Calls Tryd.prog 20 #[.pointer (some ⟨b, 0, none⟩), .pointer (some ⟨g, 0, none⟩), actVal x, .int .i64 ctx] w (ClaimsEnd w b g (rdT t (plcK x.a x.n))) := by
  have k0 := (Below.refl w.heap.size w).alloc (Nat.le_refl _) (.cells #[.int .i64 x.d, .int .u64 x.a, .int .i64 x.n, .int .u64 x.v, .int .i64 x.s, .bool x.u] 47)
  have HP := Lib.hid (hp.below k0)
  have HG := Lib.hid (show BusyA _ g t from hg.below k0 hg.lt)
  have HT := Lib.hid (ht.below k0)
  have HB := Lib.hid k0
  have HE : Hid (rdT t (plcK x.a x.n) = t) := Lib.hid (by
    have e : plcK x.a x.n = (5, 0) := by unfold plcK; rw [if_neg hn]
    rw [e]; rfl)
  have R1 := Lib.hid r1
  obtain ⟨xd, xa, xn, xv, xs, xu⟩ := x
  unfold actVal
  simp only at HP HG HT HB HE R1 hn ⊢
  have hn4 : (xn != 4) = true := by simpa using hn
  have hcd : decide (ctx < 0) = false := by rw [decide_eq_false_iff_not]; omega
  clear hp hg ht k0 hn hc r1
  go_enter Tryd.func20, Tryd.ntmps20
  go_wp2_with fail
  generalize w.alloc (.cells #[.int .i64 xd, .int .u64 xa, .int .i64 xn, .int .u64 xv, .int .i64 xs, .bool xu] 47) = w1 at *
  (with_reducible refine (read_any w1 b t HP.out HT.out xa xn R1.out).mono ?_)
  rintro e w2 ⟨rfl, ho, hp2⟩
  have HO := Lib.hid ((Only.of_below (fun i => i = b) HB.out).trans ho)
  have HG2 : Hid (BusyA w2 g t) := Lib.hid (ho.keeps hgb HG.out)
  have HP2 := Lib.hid hp2
  clear ho hp2
  go_wp2
  go_ret
  exact ⟨rfl, HO.out.mono (fun i hi => .inl (.inl hi)), HP2.out, by rw [HE.out]; exact HG2.out⟩

set_option maxRecDepth 100000 in
set_option maxHeartbeats 8000000 in
theorem claims_at0 (w : World) (b g : Nat) (t : PS) (xd xv xs : Int) (xu : Bool) (hp : ProgP w b t) (hg : BusyA w g t) (ht : Tab w) (hgb : ¬ g = b) (hb0 : ¬ b = 0) (hl : t.live) :
    Calls Tryd.prog 20 #[.pointer (some ⟨b, 0, none⟩), .pointer (some ⟨g, 0, none⟩), .agg #[.int .i64 xd, .int .u64 2097156, .int .i64 4, .int .u64 xv, .int .i64 xs, .bool xu], .int .i64 0] w (ClaimsEnd w b g (claimed t (bestC t 0))) := by
  have k0 := (Below.refl w.heap.size w).alloc (Nat.le_refl _) (.cells #[.int .i64 xd, .int .u64 2097156, .int .i64 4, .int .u64 xv, .int .i64 xs, .bool xu] 47)
  have H0 := heap_alloc_new w (.cells #[.int .i64 xd, .int .u64 2097156, .int .i64 4, .int .u64 xv, .int .i64 xs, .bool xu] 47)
  have HG := Lib.hid (show BusyA _ g t from hg.below k0 hg.lt)
  have HB := Lib.hid k0
  have HA : Hid (AtP _ _ b t) := Lib.hid ⟨Only.refl _ _, hp.below k0, ht.below k0, hb0⟩
  have hnb : ¬ w.heap.size = b := by have := hp.lt; omega
  have hle := bestC_le t 0
  have HBEST := Lib.hid (best_in t 0 (by omega))
  have HL := Lib.hid hl
  obtain ⟨k, hk⟩ : ∃ k, bestC t 0 = k := ⟨_, rfl⟩
  have HK := Lib.hid hk
  rw [show ((0 : Nat) : Int) = 0 from rfl, hk] at HBEST
  rw [hk] at hle ⊢
  clear hp hg ht k0 hb0 hl hk
  go_enter Tryd.func20, Tryd.ntmps20
  go_wp2_with fail
  generalize w.alloc (.cells #[.int .i64 xd, .int .u64 2097156, .int .i64 4, .int .u64 xv, .int .i64 xs, .bool xu] 47) = w1 at *
  have g1 : w1.cell? ⟨w.heap.size, 1, none⟩ = some (.int .u64 2097156) := by rw [cell_of_row _ _ _ _ _ _ H0]; rfl
  have HG1 := Lib.hid g1
  clear g1 H0
  (with_reducible refine (read_is _ b t t 8192 4 (bits32 fun s => t.on s 0) true HA.out.pc HA.out.tab (by unfold In64; decide) rfl rfl (by decide)).mono ?_)
  rintro e w2 ⟨rfl, ho, hp⟩
  replace HA := Lib.hid (HA.out.turn ho hp)
  clear ho hp
  go_wp2_with fail
  (with_reducible refine (read_is _ b t t 4096 4 (bits32 t.pend) true HA.out.pc HA.out.tab (by unfold In64; decide) rfl rfl (by decide)).mono ?_)
  rintro e w3 ⟨rfl, ho, hp⟩
  replace HA := Lib.hid (HA.out.turn ho hp)
  clear ho hp
  have HR := Lib.hid HA.out.row
  go_wp2_with (refine wpList_load_rowG (by rfl) _ _ rfl b rfl 27 _ _ _ HR.out Tryd.underlying27 rfl (info_row _) ?_)
  (with_reducible refine (best_is _ t HA.out.ok 0 k HK.out).mono ?_)
  rintro e w4 ⟨rfl, hb⟩
  replace HA := Lib.hid (HA.out.below hb)
  clear hb HR
  have h1 := HA.out.cell hnb HG1.out
  go_wp2_with fail
  have HRD : Hid (rdT t (plcK 2097156 4) = claimed t k) := Lib.hid (by show claimed t (bestC t ((0 : Nat) : Int)) = _; rw [show ((0 : Nat) : Int) = 0 from rfl, HK.out])
  have HRX : Hid (rdX t (plcK 2097156 4) = k) := Lib.hid (by show ((bestC t ((0 : Nat) : Int) : Nat) : Int) = k; rw [show ((0 : Nat) : Int) = 0 from rfl, HK.out])
  (with_reducible refine (read_is _ b t (claimed t k) 2097156 4 k true HA.out.pc HA.out.tab (by unfold In64; decide) HRD.out HRX.out (by decide)).mono ?_)
  rintro e w5 ⟨rfl, ho, hp⟩
  replace HA := Lib.hid (HA.out.turn ho hp)
  clear ho hp h1 HRD HRX
  have ik : (k : Int) ≤ 31 := by omega
  have ik0 : (0 : Int) ≤ (k : Int) := by omega
  have hwk : IntKind.u64.wrap (k : Int) = k := wrap_u64s (by omega) (by omega)
  have hw4 : IntKind.u64.wrap (4 * (k : Int)) = 4 * (k : Int) := wrap_u64s (by omega) (by omega)
  have HPK : Hid ((claimed t k).prio k = t.prio k) := Lib.hid (by unfold claimed; split <;> rfl)
  go_wp2_with fail
  (with_reducible refine (prio_is _ b (claimed t k) (by omega) (t.prio k) HPK.out HA.out.pc HA.out.tab).mono ?_)
  rintro e w6 ⟨rfl, ho, hp⟩
  replace HA := Lib.hid (HA.out.turn ho hp)
  clear ho hp hw4
  obtain ⟨m, hm⟩ : ∃ m, t.prio k = m := ⟨_, rfl⟩
  have HM := Lib.hid hm
  rw [hm]
  clear hm
  go_wp2
  go_loopg [18] 31 (fun gg i wr => ∃ s : Nat, s + gg = 32 ∧ 1 ≤ s ∧ i = .int .u64 s ∧ AtP w1 wr b (claimed t k))
  case atStart => exact ⟨1, by omega, by omega, rfl, HA.out⟩
  case round =>
    obtain ⟨s, hs, hs1, rfl, hA⟩ := hrel
    replace HA := Lib.hid hA
    clear hA
    cases gk with
    | succ gg =>
      have hs2 : s < 32 := by omega
      have i1 : (s : Int) < 32 := by omega
      have i2 : (1 : Int) ≤ (s : Int) := by omega
      have hPS : (claimed t k).prio s = t.prio s := by unfold claimed; split <;> rfl
      have HPS := Lib.hid hPS
      have hand := and64_32 (fun s => t.on s 0) t.pend
      have HAND := Lib.hid hand
      have hbit := bit_of32t (fun s => t.on s 0 && t.pend s) hs2
      have HBIT := Lib.hid hbit
      have hcand : (t.on s 0 && t.pend s) = true → 0 < t.prio s → ¬ k = 0 ∧ (t.prio s < t.prio k ∨ (t.prio s = t.prio k ∧ k ≤ s)) := by
        intro h1 h2
        have hc : candP t 0 s = true := by unfold candP; rw [decide_eq_true h2, Bool.and_true, Bool.and_comm]; exact h1
        have hk0 : ¬ k = 0 := fun h => by have := HBEST.out.nil h s hs1 (by omega); rw [hc] at this; cases this
        exact ⟨hk0, (HBEST.out.is hk0).2.2.2 s hs1 (by omega) hc⟩
      have hws : IntKind.u64.wrap (s : Int) = s := wrap_u64s (by omega) (by omega)
      have hws4 : IntKind.u64.wrap (4 * (s : Int)) = 4 * (s : Int) := wrap_u64s (by omega) (by omega)
      have hws1 : IntKind.u64.wrap ((s : Int) + 1) = (s : Int) + 1 := wrap_u64s (by omega) (by omega)
      clear hPS hand hbit
      go_wp2_with fail
      (with_reducible refine (prio_is _ b (claimed t k) hs2 (t.prio s) HPS.out HA.out.pc HA.out.tab).mono ?_)
      rintro e w7 ⟨rfl, ho, hp⟩
      replace HA := Lib.hid (HA.out.turn ho hp)
      clear ho hp hws4
      obtain ⟨x, hx⟩ : ∃ x, t.prio s = x := ⟨_, rfl⟩
      obtain ⟨q, hq⟩ : ∃ q, (t.on s 0 && t.pend s) = q := ⟨_, rfl⟩
      have e1 := HAND.out
      have e2 := HBIT.out
      rw [hq] at e2 hcand
      rw [hx, HM.out] at hcand
      rw [hx]
      have HCAND := Lib.hid hcand
      clear hx hq hcand HAND HBIT
      cases q with
      | false =>
        go_wp2
        go_roundg gg
        case measure => omega
        case rel => exact ⟨s + 1, by omega, by omega, by go_num, HA.out⟩
      | true =>
        by_cases hx0 : 0 < x
        · obtain ⟨hk0, hor⟩ := HCAND.out rfl hx0
          have f1 : ((k : Int) == 0) = false := by simp; omega
          have f2 : decide (0 < x) = true := decide_eq_true hx0
          by_cases hxm : x = m
          · subst hxm
            have hks : k ≤ s := by omega
            have f3 : decide (x < x) = false := decide_eq_false (by omega)
            have f4 : decide (s < k) = false := decide_eq_false (by omega)
            have f5 : decide ((s : Int) < (k : Int)) = false := decide_eq_false (by omega)
            clear hor hx0 hk0 hks
            go_wp2
            go_roundg gg
            case measure => omega
            case rel => exact ⟨s + 1, by omega, by omega, by go_num, HA.out⟩
          · have f3 : decide (m < x) = false := decide_eq_false (by omega)
            have f4 : (x == m) = false := by simpa using hxm
            clear hor hx0 hk0 hxm
            go_wp2
            go_roundg gg
            case measure => omega
            case rel => exact ⟨s + 1, by omega, by omega, by go_num, HA.out⟩
        · have f2 : decide (0 < x) = false := decide_eq_false hx0
          clear hx0
          go_wp2
          go_roundg gg
          case measure => omega
          case rel => exact ⟨s + 1, by omega, by omega, by go_num, HA.out⟩
    | zero =>
      obtain rfl : s = 32 := by omega
      have HGR : Hid (BusyA wr g t) := Lib.hid (HA.out.only.keeps hgb HG.out)
      by_cases hk0 : k = 0
      · subst hk0
        go_wp2
        go_ret
        exact ⟨rfl, ((Only.of_below (fun i => i = b) HB.out).trans HA.out.only).mono (fun i hi => .inl (.inl hi)), HA.out.pc, by rw [claimed_none]; exact HGR.out⟩
      · obtain ⟨_, _, hc, _⟩ := HBEST.out.is hk0
        unfold candP at hc
        simp only [Bool.and_eq_true, decide_eq_true_eq] at hc
        obtain ⟨⟨hc1, hc2⟩, hc3⟩ := hc
        have hbf := HL.out.not2 k hc1
        have hcb : wr.cell? ⟨g, k, none⟩ = some (.bool false) := by rw [← hbf]; exact HGR.out.cell (by omega)
        have hcf := HoldsB.frozen HGR.out k
        have hand := and64_32 (fun s => t.on s 0) t.pend
        have hbit := bit_of32t (fun s => t.on s 0 && t.pend s) (show k < 32 by omega)
        rw [hc1, hc2] at hbit
        have hbit0 : ((bits32 (fun s => t.on s 0 && t.pend s) / 2 ^ k).tmod 2 == 0) = false := by
          rw [beq_iff_eq.1 (show ((bits32 (fun s => t.on s 0 && t.pend s) / 2 ^ k).tmod 2 == 1) = true from hbit)]; rfl
        have hm0 : (m == 0) = false := by rw [← HM.out]; simp; omega
        have f1 : ((k : Int) == 0) = false := by simp; omega
        have i32 : (k : Int) < 32 := by omega
        have HG2 := Lib.hid (HGR.out.claim hk0)
        have HP2 : Hid (ProgP (wr.setCell ⟨g, k, none⟩ (.bool true)) b (claimed t k)) := Lib.hid (HA.out.pc.keeps ((Only.refl (fun i => i = g) wr).setCell (p := ⟨g, k, none⟩) (.inl rfl) _) (fun e => hgb e.symm))
        have HO2 : Hid (Only (fun i => i = b ∨ i = g) w (wr.setCell ⟨g, k, none⟩ (.bool true))) := Lib.hid ((((Only.of_below (fun i => i = b) HB.out).trans HA.out.only).mono (fun i hi => .inl (.inl hi))).setCell (p := ⟨g, k, none⟩) (.inl (.inr rfl)) _)
        clear hc1 hc2 hc3 hbf hk0 hbit
        go_wp2
        go_ret
        exact ⟨rfl, HO2.out, HP2.out, HG2.out⟩

set_option maxRecDepth 100000 in
set_option maxHeartbeats 8000000 in
theorem claims_at1 (w : World) (b g : Nat) (t : PS) (xd xv xs : Int) (xu : Bool) (hp : ProgP w b t) (hg : BusyA w g t) (ht : Tab w) (hgb : ¬ g = b) (hb0 : ¬ b = 0) (hl : t.live) :
    Calls Tryd.prog 20 #[.pointer (some ⟨b, 0, none⟩), .pointer (some ⟨g, 0, none⟩), .agg #[.int .i64 xd, .int .u64 2101252, .int .i64 4, .int .u64 xv, .int .i64 xs, .bool xu], .int .i64 1] w (ClaimsEnd w b g (claimed t (bestC t 1))) := by
  have k0 := (Below.refl w.heap.size w).alloc (Nat.le_refl _) (.cells #[.int .i64 xd, .int .u64 2101252, .int .i64 4, .int .u64 xv, .int .i64 xs, .bool xu] 47)
  have H0 := heap_alloc_new w (.cells #[.int .i64 xd, .int .u64 2101252, .int .i64 4, .int .u64 xv, .int .i64 xs, .bool xu] 47)
  have HG := Lib.hid (show BusyA _ g t from hg.below k0 hg.lt)
  have HB := Lib.hid k0
  have HA : Hid (AtP _ _ b t) := Lib.hid ⟨Only.refl _ _, hp.below k0, ht.below k0, hb0⟩
  have hnb : ¬ w.heap.size = b := by have := hp.lt; omega
  have hle := bestC_le t 1
  have HBEST := Lib.hid (best_in t 1 (by omega))
  have HL := Lib.hid hl
  obtain ⟨k, hk⟩ : ∃ k, bestC t 1 = k := ⟨_, rfl⟩
  have HK := Lib.hid hk
  rw [show ((1 : Nat) : Int) = 1 from rfl, hk] at HBEST
  rw [hk] at hle ⊢
  clear hp hg ht k0 hb0 hl hk
  go_enter Tryd.func20, Tryd.ntmps20
  go_wp2_with fail
  generalize w.alloc (.cells #[.int .i64 xd, .int .u64 2101252, .int .i64 4, .int .u64 xv, .int .i64 xs, .bool xu] 47) = w1 at *
  have g1 : w1.cell? ⟨w.heap.size, 1, none⟩ = some (.int .u64 2101252) := by rw [cell_of_row _ _ _ _ _ _ H0]; rfl
  have HG1 := Lib.hid g1
  clear g1 H0
  (with_reducible refine (read_is _ b t t 8320 4 (bits32 fun s => t.on s 1) true HA.out.pc HA.out.tab (by unfold In64; decide) rfl rfl (by decide)).mono ?_)
  rintro e w2 ⟨rfl, ho, hp⟩
  replace HA := Lib.hid (HA.out.turn ho hp)
  clear ho hp
  go_wp2_with fail
  (with_reducible refine (read_is _ b t t 4096 4 (bits32 t.pend) true HA.out.pc HA.out.tab (by unfold In64; decide) rfl rfl (by decide)).mono ?_)
  rintro e w3 ⟨rfl, ho, hp⟩
  replace HA := Lib.hid (HA.out.turn ho hp)
  clear ho hp
  have HR := Lib.hid HA.out.row
  go_wp2_with (refine wpList_load_rowG (by rfl) _ _ rfl b rfl 27 _ _ _ HR.out Tryd.underlying27 rfl (info_row _) ?_)
  (with_reducible refine (best_is _ t HA.out.ok 1 k HK.out).mono ?_)
  rintro e w4 ⟨rfl, hb⟩
  replace HA := Lib.hid (HA.out.below hb)
  clear hb HR
  have h1 := HA.out.cell hnb HG1.out
  go_wp2_with fail
  have HRD : Hid (rdT t (plcK 2101252 4) = claimed t k) := Lib.hid (by show claimed t (bestC t ((1 : Nat) : Int)) = _; rw [show ((1 : Nat) : Int) = 1 from rfl, HK.out])
  have HRX : Hid (rdX t (plcK 2101252 4) = k) := Lib.hid (by show ((bestC t ((1 : Nat) : Int) : Nat) : Int) = k; rw [show ((1 : Nat) : Int) = 1 from rfl, HK.out])
  (with_reducible refine (read_is _ b t (claimed t k) 2101252 4 k true HA.out.pc HA.out.tab (by unfold In64; decide) HRD.out HRX.out (by decide)).mono ?_)
  rintro e w5 ⟨rfl, ho, hp⟩
  replace HA := Lib.hid (HA.out.turn ho hp)
  clear ho hp h1 HRD HRX
  have ik : (k : Int) ≤ 31 := by omega
  have ik0 : (0 : Int) ≤ (k : Int) := by omega
  have hwk : IntKind.u64.wrap (k : Int) = k := wrap_u64s (by omega) (by omega)
  have hw4 : IntKind.u64.wrap (4 * (k : Int)) = 4 * (k : Int) := wrap_u64s (by omega) (by omega)
  have HPK : Hid ((claimed t k).prio k = t.prio k) := Lib.hid (by unfold claimed; split <;> rfl)
  go_wp2_with fail
  (with_reducible refine (prio_is _ b (claimed t k) (by omega) (t.prio k) HPK.out HA.out.pc HA.out.tab).mono ?_)
  rintro e w6 ⟨rfl, ho, hp⟩
  replace HA := Lib.hid (HA.out.turn ho hp)
  clear ho hp hw4
  obtain ⟨m, hm⟩ : ∃ m, t.prio k = m := ⟨_, rfl⟩
  have HM := Lib.hid hm
  rw [hm]
  clear hm
  go_wp2
  go_loopg [18] 31 (fun gg i wr => ∃ s : Nat, s + gg = 32 ∧ 1 ≤ s ∧ i = .int .u64 s ∧ AtP w1 wr b (claimed t k))
  case atStart => exact ⟨1, by omega, by omega, rfl, HA.out⟩
  case round =>
    obtain ⟨s, hs, hs1, rfl, hA⟩ := hrel
    replace HA := Lib.hid hA
    clear hA
    cases gk with
    | succ gg =>
      have hs2 : s < 32 := by omega
      have i1 : (s : Int) < 32 := by omega
      have i2 : (1 : Int) ≤ (s : Int) := by omega
      have hPS : (claimed t k).prio s = t.prio s := by unfold claimed; split <;> rfl
      have HPS := Lib.hid hPS
      have hand := and64_32 (fun s => t.on s 1) t.pend
      have HAND := Lib.hid hand
      have hbit := bit_of32t (fun s => t.on s 1 && t.pend s) hs2
      have HBIT := Lib.hid hbit
      have hcand : (t.on s 1 && t.pend s) = true → 0 < t.prio s → ¬ k = 0 ∧ (t.prio s < t.prio k ∨ (t.prio s = t.prio k ∧ k ≤ s)) := by
        intro h1 h2
        have hc : candP t 1 s = true := by unfold candP; rw [decide_eq_true h2, Bool.and_true, Bool.and_comm]; exact h1
        have hk0 : ¬ k = 0 := fun h => by have := HBEST.out.nil h s hs1 (by omega); rw [hc] at this; cases this
        exact ⟨hk0, (HBEST.out.is hk0).2.2.2 s hs1 (by omega) hc⟩
      have hws : IntKind.u64.wrap (s : Int) = s := wrap_u64s (by omega) (by omega)
      have hws4 : IntKind.u64.wrap (4 * (s : Int)) = 4 * (s : Int) := wrap_u64s (by omega) (by omega)
      have hws1 : IntKind.u64.wrap ((s : Int) + 1) = (s : Int) + 1 := wrap_u64s (by omega) (by omega)
      clear hPS hand hbit
      go_wp2_with fail
      (with_reducible refine (prio_is _ b (claimed t k) hs2 (t.prio s) HPS.out HA.out.pc HA.out.tab).mono ?_)
      rintro e w7 ⟨rfl, ho, hp⟩
      replace HA := Lib.hid (HA.out.turn ho hp)
      clear ho hp hws4
      obtain ⟨x, hx⟩ : ∃ x, t.prio s = x := ⟨_, rfl⟩
      obtain ⟨q, hq⟩ : ∃ q, (t.on s 1 && t.pend s) = q := ⟨_, rfl⟩
      have e1 := HAND.out
      have e2 := HBIT.out
      rw [hq] at e2 hcand
      rw [hx, HM.out] at hcand
      rw [hx]
      have HCAND := Lib.hid hcand
      clear hx hq hcand HAND HBIT
      cases q with
      | false =>
        go_wp2
        go_roundg gg
        case measure => omega
        case rel => exact ⟨s + 1, by omega, by omega, by go_num, HA.out⟩
      | true =>
        by_cases hx0 : 0 < x
        · obtain ⟨hk0, hor⟩ := HCAND.out rfl hx0
          have f1 : ((k : Int) == 0) = false := by simp; omega
          have f2 : decide (0 < x) = true := decide_eq_true hx0
          by_cases hxm : x = m
          · subst hxm
            have hks : k ≤ s := by omega
            have f3 : decide (x < x) = false := decide_eq_false (by omega)
            have f4 : decide (s < k) = false := decide_eq_false (by omega)
            have f5 : decide ((s : Int) < (k : Int)) = false := decide_eq_false (by omega)
            clear hor hx0 hk0 hks
            go_wp2
            go_roundg gg
            case measure => omega
            case rel => exact ⟨s + 1, by omega, by omega, by go_num, HA.out⟩
          · have f3 : decide (m < x) = false := decide_eq_false (by omega)
            have f4 : (x == m) = false := by simpa using hxm
            clear hor hx0 hk0 hxm
            go_wp2
            go_roundg gg
            case measure => omega
            case rel => exact ⟨s + 1, by omega, by omega, by go_num, HA.out⟩
        · have f2 : decide (0 < x) = false := decide_eq_false hx0
          clear hx0
          go_wp2
          go_roundg gg
          case measure => omega
          case rel => exact ⟨s + 1, by omega, by omega, by go_num, HA.out⟩
    | zero =>
      obtain rfl : s = 32 := by omega
      have HGR : Hid (BusyA wr g t) := Lib.hid (HA.out.only.keeps hgb HG.out)
      by_cases hk0 : k = 0
      · subst hk0
        go_wp2
        go_ret
        exact ⟨rfl, ((Only.of_below (fun i => i = b) HB.out).trans HA.out.only).mono (fun i hi => .inl (.inl hi)), HA.out.pc, by rw [claimed_none]; exact HGR.out⟩
      · obtain ⟨_, _, hc, _⟩ := HBEST.out.is hk0
        unfold candP at hc
        simp only [Bool.and_eq_true, decide_eq_true_eq] at hc
        obtain ⟨⟨hc1, hc2⟩, hc3⟩ := hc
        have hbf := HL.out.not2 k hc1
        have hcb : wr.cell? ⟨g, k, none⟩ = some (.bool false) := by rw [← hbf]; exact HGR.out.cell (by omega)
        have hcf := HoldsB.frozen HGR.out k
        have hand := and64_32 (fun s => t.on s 1) t.pend
        have hbit := bit_of32t (fun s => t.on s 1 && t.pend s) (show k < 32 by omega)
        rw [hc1, hc2] at hbit
        have hbit0 : ((bits32 (fun s => t.on s 1 && t.pend s) / 2 ^ k).tmod 2 == 0) = false := by
          rw [beq_iff_eq.1 (show ((bits32 (fun s => t.on s 1 && t.pend s) / 2 ^ k).tmod 2 == 1) = true from hbit)]; rfl
        have hm0 : (m == 0) = false := by rw [← HM.out]; simp; omega
        have f1 : ((k : Int) == 0) = false := by simp; omega
        have i32 : (k : Int) < 32 := by omega
        have HG2 := Lib.hid (HGR.out.claim hk0)
        have HP2 : Hid (ProgP (wr.setCell ⟨g, k, none⟩ (.bool true)) b (claimed t k)) := Lib.hid (HA.out.pc.keeps ((Only.refl (fun i => i = g) wr).setCell (p := ⟨g, k, none⟩) (.inl rfl) _) (fun e => hgb e.symm))
        have HO2 : Hid (Only (fun i => i = b ∨ i = g) w (wr.setCell ⟨g, k, none⟩ (.bool true))) := Lib.hid ((((Only.of_below (fun i => i = b) HB.out).trans HA.out.only).mono (fun i hi => .inl (.inl hi))).setCell (p := ⟨g, k, none⟩) (.inl (.inr rfl)) _)
        clear hc1 hc2 hc3 hbf hk0 hbit
        go_wp2
        go_ret
        exact ⟨rfl, HO2.out, HP2.out, HG2.out⟩

end Go.Proofs.YtgimnkablodheaaDoor
