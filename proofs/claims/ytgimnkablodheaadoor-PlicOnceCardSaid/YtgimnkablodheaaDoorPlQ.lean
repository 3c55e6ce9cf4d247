/- Layer 5: the program's plic: look, Up, Level. -/
import Derived.Test.YtgimnkablodheaaDoorPlP
import Derived.Deep.RegionWith
namespace Go.Proofs.YtgimnkablodheaaDoor
open Go.RowKit
set_option linter.unusedVariables false

theorem below_drewN {B : Nat} {a w : World} (h : Below B a w) (n : Nat) : Below B a (w.drewN n) := ⟨h.os, h.tape, h.output, h.size, h.block⟩
theorem upd0 {f : Nat → Bool} {s : Nat} (h0 : f 0 = false) (hs : 1 ≤ s) (u : Bool) : upd f s u 0 = false := (upd_other f u (show ¬ 0 = s by omega)).trans h0
set_option maxHeartbeats 1000000 in
theorem look_any (w : World) (b : Nat) (t : PS) (h : ProgP w b t) (s : Nat) (h1 : 1 ≤ s) (hs : s < 32) :
    Calls Tryd.prog 27 #[.pointer (some ⟨b, 0, none⟩), .int .i64 s] w (SetQ w b (lookP t s)) := by
  have c0 := h.up_
  have c1 := h.pend_
  have c2 := h.busy_
  have f1 := h.free 1
  have H := Lib.hid h
  have HN : Hid (ProgP (w.drew.setCell ⟨b, 1, none⟩ (.int .u32 (bits32 (upd t.pend s true)))) b { t with pend := upd t.pend s true }) := Lib.hid (ProgP.setPend (w := w.drew) ⟨h.1, h.2⟩ _ (upd0 h.2.pend0 h1 true))
  have HO : Hid (Only (fun i => i = b) w (w.drew.setCell ⟨b, 1, none⟩ (.int .u32 (bits32 (upd t.pend s true))))) := Lib.hid (Only.setCell ((Only.refl (fun i => i = b) w).drewN 1) (p := ⟨b, 1, none⟩) (.inl rfl) _)
  have H1 := Lib.hid (one_shl hs)
  have H2 := Lib.hid (set32 t.pend hs)
  clear h
  generalize hu : t.up s = u at *
  generalize hb : t.busy s = v at *
  have HU := Lib.hid hu
  have HB := Lib.hid hb
  have HL : Hid (lookP t s = if u && !v then { t with pend := upd t.pend s true } else t) := Lib.hid (by unfold lookP; rw [hu, hb])
  clear hu hb
  cases u with
  | false =>
    have HE : Hid (lookP t s = t) := Lib.hid (by rw [HL.out]; rfl)
    rw [HE.out]
    go_enter Tryd.func27, Tryd.ntmps27
    go_wp2_with fail
    (with_reducible refine (bitQ t.up s hs _ HU.out _).mono ?_)
    rintro e w' ⟨rfl, rfl⟩
    go_wp2
    go_end0
    exact ⟨⟨_, rfl⟩, Only.refl _ _, H.out⟩
  | true =>
  cases v with
  | true =>
    have HE : Hid (lookP t s = t) := Lib.hid (by rw [HL.out]; rfl)
    rw [HE.out]
    go_enter Tryd.func27, Tryd.ntmps27
    go_wp2_with fail
    (with_reducible refine (bitQ t.up s hs _ HU.out _).mono ?_)
    rintro e w' ⟨rfl, rfl⟩
    go_wp2_with fail
    (with_reducible refine (bitQ t.busy s hs _ HB.out _).mono ?_)
    rintro e w' ⟨rfl, rfl⟩
    go_wp2
    go_end0
    exact ⟨⟨_, rfl⟩, Only.refl _ _, H.out⟩
  | false =>
    have HE : Hid (lookP t s = { t with pend := upd t.pend s true }) := Lib.hid (by rw [HL.out]; rfl)
    rw [HE.out]
    go_enter Tryd.func27, Tryd.ntmps27
    go_wp2_with fail
    (with_reducible refine (bitQ t.up s hs _ HU.out _).mono ?_)
    rintro e w' ⟨rfl, rfl⟩
    go_wp2_with fail
    (with_reducible refine (bitQ t.busy s hs _ HB.out _).mono ?_)
    rintro e w' ⟨rfl, rfl⟩
    go_wp2_with fail
    go_still_tail 9, (by kernel_rfl)
    change wpList _ _ _ _ _ w.drew
    have d1 : w.drew.frozen? ⟨b, 1, none⟩ = false := f1
    have e1 := H1.out
    have e2 := H2.out
    go_wp2
    go_end0
    exact ⟨⟨_, rfl⟩, HO.out, HN.out⟩

/-- Its value. -/
def progPV (t : PS) : Value := .agg (varr 39 (cellQ t))
theorem progP_boxed (w : World) {t : PS} (ok : t.ok) : ProgP (w.alloc (.cells (varr 39 (cellQ t)) 27)) w.heap.size t := ⟨heap_alloc_new w _, ok⟩
theorem up_any (w : World) (t : PS) (ok : t.ok) (s : Int) : Calls Tryd.prog 18 #[progPV t, .int .i64 s] w fun e w' => e = .returned (.bool (upT t s)) ∧ Below w.heap.size w w' := by
  have HP := Lib.hid (progP_boxed w ok)
  have HB := Lib.hid ((Below.refl w.heap.size w).alloc (Nat.le_refl _) (.cells (varr 39 (cellQ t)) 27))
  show Calls Tryd.prog 18 #[.agg (varr 39 (cellQ t)), .int .i64 s] w _
  generalize varr 39 (cellQ t) = row at *
  by_cases hs : 0 ≤ s ∧ s < 32
  · obtain ⟨k, rfl⟩ : ∃ k : Nat, s = k := ⟨s.toNat, by omega⟩
    have hk : k < 32 := by omega
    have HE : Hid (upT t (k : Int) = t.up k) := Lib.hid (by
      unfold upT isS
      by_cases k0 : k = 0
      · subst k0; rw [ok.up0]; rfl
      · rw [decide_eq_true (by omega)]; simp)
    rw [HE.out]
    clear hs
    have c0 := HP.out.up_
    go_enter Tryd.func18, Tryd.ntmps18
    go_wp2_with fail
    (with_reducible refine (bitQ t.up k hk _ rfl _).mono ?_)
    rintro e w' ⟨rfl, rfl⟩
    go_wp2
    go_ret
    exact ⟨rfl, HB.out⟩
  · have HE : Hid (upT t s = false) := Lib.hid (by unfold upT isS; rw [decide_eq_false (by omega)]; rfl)
    rw [HE.out]
    have HS := Lib.hid hs
    clear hs
    have c0 := HP.out.up_
    go_enter Tryd.func18, Tryd.ntmps18
    go_wp2_with fail
    (with_reducible refine (bitQ_out t.up s HS.out _).mono ?_)
    rintro e w' ⟨rfl, rfl⟩
    go_wp2
    go_ret
    exact ⟨rfl, HB.out⟩

def ProgEnd (w : World) (b : Nat) (r : Value) (t' : PS) (e : Ending) (w' : World) : Prop := e = .returned r ∧ Only (fun i => i = b) w w' ∧ ProgP w' b t'
theorem level_none (w : World) (s : Int) (u : Bool) : Calls Tryd.prog 10 #[.pointer none, .int .i64 s, .bool u] w fun e w' => e = .returned (.bool false) ∧ w = w' := by
  go_enter Tryd.func10, Tryd.ntmps10
  go_wp2
  go_ret
  exact ⟨rfl, rfl⟩
set_option maxHeartbeats 1000000 in
theorem level_any (w : World) (b : Nat) (t : PS) (s : Int) (u : Bool) (h : ProgP w b t) :
    Calls Tryd.prog 10 #[.pointer (some ⟨b, 0, none⟩), .int .i64 s, .bool u] w (ProgEnd w b (.bool (isS s)) (levelP t s u)) := by
  cases hs : isS s with
  | false =>
    have HE : Hid (ProgEnd w b (.bool false) (levelP t s u) (.returned (.bool false)) w) := by
      refine Lib.hid ⟨rfl, Only.refl _ _, ?_⟩
      unfold levelP; rw [hs, if_neg (by simp)]; exact h
    have HS := Lib.hid hs
    clear h hs
    go_enter Tryd.func10, Tryd.ntmps10
    go_wp2_with fail
    (with_reducible refine (isSource_any _ _).mono ?_)
    rintro e w' ⟨rfl, rfl⟩
    rw [HS.out]
    go_wp2
    go_ret
    exact HE.out
  | true =>
    obtain ⟨k, rfl, hk1, hk2⟩ := isS_nat hs
    have HS := Lib.hid hs
    have HL : Hid (levelP t (k : Int) u = lookP (upP t k u) k) := by
      refine Lib.hid ?_
      unfold levelP; rw [hs, if_pos rfl]; rfl
    have c0 := h.up_
    have f0 := h.free 0
    have HN : Hid (ProgP (w.drew.setCell ⟨b, 0, none⟩ (.int .u32 (bits32 (upd t.up k u)))) b (upP t k u)) := Lib.hid (ProgP.setUp (w := w.drew) ⟨h.1, h.2⟩ hk1 u)
    have HO : Hid (Only (fun i => i = b) w (w.drew.setCell ⟨b, 0, none⟩ (.int .u32 (bits32 (upd t.up k u))))) := Lib.hid (Only.setCell ((Only.refl (fun i => i = b) w).drewN 1) (p := ⟨b, 0, none⟩) (.inl rfl) _)
    have H1 := Lib.hid (one_shl hk2)
    have H2 := Lib.hid (set32 t.up hk2)
    have H3 := Lib.hid (clr32 t.up hk2)
    clear h hs
    rw [HL.out]
    cases u <;>
    · go_enter Tryd.func10, Tryd.ntmps10
      go_wp2_with fail
      (with_reducible refine (isSource_any _ _).mono ?_)
      rintro e w' ⟨rfl, rfl⟩
      rw [HS.out]
      go_wp2_with fail
      go_still_tail 9, (by kernel_rfl)
      change wpList _ _ _ _ _ w.drew
      have d1 : w.drew.frozen? ⟨b, 0, none⟩ = false := f0
      have d0 : w.drew.cell? ⟨b, 0, none⟩ = some (.int .u32 (bits32 t.up)) := c0
      generalize w.drew = wd at *
      have e1 := H1.out
      have e2 := H2.out
      have e3 := H3.out
      go_wp2_with fail
      clear e1 e2 e3
      (with_reducible refine (look_any _ b _ HN.out k hk1 hk2).mono ?_)
      rintro e w' ⟨hu, ho, hp⟩
      obtain ⟨v, rfl⟩ := hu
      have HO2 := Lib.hid (HO.out.trans ho)
      have HP := Lib.hid hp
      clear ho hp
      go_wp2
      go_ret
      exact ⟨rfl, HO2.out, HP.out⟩

theorem setPriority_no (w : World) (b : Nat) (i v : Int) (hi : isS i = false) : Calls Tryd.prog 23 #[.pointer (some ⟨b, 0, none⟩), .int .i64 i, .int .u64 v] w fun e w' => (∃ u, e = .returned u) ∧ w = w' := by
  have HI := Lib.hid hi
  clear hi
  go_enter Tryd.func23, Tryd.ntmps23
  go_wp2_with fail
  (with_reducible refine (isSource_any _ _).mono ?_)
  rintro e w' ⟨rfl, rfl⟩
  rw [HI.out]
  go_wp2
  go_end0
  exact ⟨⟨_, rfl⟩, rfl⟩
theorem wrap_u8 {x : Int} (h0 : 0 ≤ x) (h1 : x < 8) : IntKind.u8.wrap x = x := by rw [IntKind.wrap_u8]; omega
set_option maxHeartbeats 1000000 in
theorem setPriority_yes (w : World) (b : Nat) (t : PS) (h : ProgP w b t) (k : Nat) (h1 : 1 ≤ k) (h2 : k < 32) (v : Int) (hv : In64 v) :
    Calls Tryd.prog 23 #[.pointer (some ⟨b, 0, none⟩), .int .i64 k, .int .u64 v] w (SetQ w b (prioT t k (v % 8))) := by
  have HI : Hid (isS (k : Int) = true) := Lib.hid (by unfold isS; rw [decide_eq_true (by omega)])
  have HV := Lib.hid hv
  have h8 := low3 hv
  have hr1 := Int.emod_nonneg v (show (8 : Int) ≠ 0 by decide)
  have hr2 := Int.emod_lt_of_pos v (show (0 : Int) < 8 by decide)
  have HN : Hid (∀ n, ProgP ((w.drewN n).setCell ⟨b, 3 + k, none⟩ (.int .u8 (v % 8))) b (prioT t k (v % 8))) := Lib.hid fun n => ProgP.setPrio (w := w.drewN n) ⟨h.1, h.2⟩ h1 h2 hr1 hr2
  have HO : Hid (∀ n, Only (fun i => i = b) w ((w.drewN n).setCell ⟨b, 3 + k, none⟩ (.int .u8 (v % 8)))) := Lib.hid fun n => Only.setCell ((Only.refl (fun i => i = b) w).drewN n) (p := ⟨b, 3 + k, none⟩) (.inl rfl) _
  have H8 := Lib.hid (wrap_u8 hr1 hr2)
  have ff := h.free (3 + k)
  have cc := h.prio_ h2
  have i1 : (k : Int) < 32 := by omega
  have HL := Lib.hid h8
  clear h hv h8 hr1 hr2
  go_enter Tryd.func23, Tryd.ntmps23
  go_wp2_with fail
  (with_reducible refine (isSource_any _ _).mono ?_)
  rintro e w' ⟨rfl, rfl⟩
  rw [HI.out]
  go_wp2_with fail
  go_region_with (go_at_call 24; refine (field_any _ _ _ HV.out _).mono ?_; rintro e w' ⟨rfl, q, rfl⟩; rw [HL.out]; have e8 := H8.out; have f8 : (w.drew.drewN q).frozen? ⟨b, 3 + k, none⟩ = false := ff; have g8 : (w.drew.drewN q).cell? ⟨b, 3 + k, none⟩ = some (.int .u8 (t.prio k)) := cc)
  go_end0
  exact ⟨⟨_, rfl⟩, HO.out _, HN.out _⟩

set_option maxHeartbeats 1000000 in
theorem complete_any (w : World) (b : Nat) (t : PS) (h : ProgP w b t) (c : Nat) (hc : c < 2) (x : Nat) :
    Calls Tryd.prog 25 #[.pointer (some ⟨b, 0, none⟩), .int .i64 c, .int .i64 x] w (SetQ w b (doneT t c x)) := by
  have con := h.on_ hc
  have cbu := h.busy_
  have fbu := h.free 2
  have H := Lib.hid h
  have i1 : (c : Int) < 2 := by omega
  have hand := both32 (fun s => t.on s c) t.busy
  by_cases hx : x < 32
  · obtain ⟨u, hu⟩ : ∃ u, (t.on x c && t.busy x) = u := ⟨_, rfl⟩
    have HU := Lib.hid hu
    cases u with
    | false =>
      have HE : Hid (doneT t c x = t) := Lib.hid (by
        unfold doneT mayB
        rw [if_neg]
        rw [Bool.and_assoc, hu]; simp)
      rw [HE.out]
      clear hu h
      go_enter Tryd.func25, Tryd.ntmps25
      go_wp2_with fail
      go_quiet ((go_at_call 30; exact Calls.quiet_of_same ((bitQ (fun s => t.on s c && t.busy s) x hx false HU.out _).mono fun e w' h => ⟨h.1, h.2.symm⟩)))
      go_wp2
      go_end0
      exact ⟨⟨_, rfl⟩, (Only.refl _ _).drewN _, H.out⟩
    | true =>
      have hx1 : 1 ≤ x := by
        rcases Nat.eq_zero_or_pos x with rfl | h0
        · rw [h.2.on0] at hu; cases hu
        · exact h0
      have HE : Hid (doneT t c x = lookP (idleP t x) x) := Lib.hid (by
        unfold doneT mayB
        rw [Bool.and_assoc, hu, if_pos]
        simp; omega)
      rw [HE.out]
      have H1 := Lib.hid (one_shl hx)
      have H2 := Lib.hid (clr32 t.busy hx)
      clear hu h
      go_enter Tryd.func25, Tryd.ntmps25
      go_wp2_with fail
      go_quiet ((go_at_call 30; exact Calls.quiet_of_same ((bitQ (fun s => t.on s c && t.busy s) x hx true HU.out _).mono fun e w' h => ⟨h.1, h.2.symm⟩)))
      have dbu : (w.drewN nq).cell? ⟨b, 2, none⟩ = some (.int .u32 (bits32 t.busy)) := cbu
      have dfu : (w.drewN nq).frozen? ⟨b, 2, none⟩ = false := fbu
      have HQ : Hid (ProgP (w.drewN nq) b t) := Lib.hid H.out
      have HW : Hid (Only (fun i => i = b) w (w.drewN nq)) := Lib.hid ((Only.refl _ _).drewN nq)
      generalize w.drewN nq = wq at *
      go_wp2_with fail
      go_still_tail 9, (by kernel_rfl)
      have HN : Hid (ProgP (wq.drew.setCell ⟨b, 2, none⟩ (.int .u32 (bits32 (upd t.busy x false)))) b (idleP t x)) := Lib.hid (ProgP.setBusy (w := wq.drew) HQ.out _)
      have HO : Hid (Only (fun i => i = b) w (wq.drew.setCell ⟨b, 2, none⟩ (.int .u32 (bits32 (upd t.busy x false))))) := Lib.hid (Only.setCell (HW.out.drewN 1) (p := ⟨b, 2, none⟩) (.inl rfl) _)
      change wpList _ _ _ _ _ wq.drew
      have d1 : wq.drew.frozen? ⟨b, 2, none⟩ = false := dfu
      have d0 : wq.drew.cell? ⟨b, 2, none⟩ = some (.int .u32 (bits32 t.busy)) := dbu
      generalize wq.drew = wd at *
      have e1 := H1.out
      have e2 := H2.out
      clear hand
      go_wp2_with fail
      clear e1 e2
      (with_reducible refine (look_any _ b _ HN.out x hx1 hx).mono ?_)
      rintro e w' ⟨hu, ho, hp⟩
      obtain ⟨v, rfl⟩ := hu
      have HO2 := Lib.hid (HO.out.trans ho)
      have HP := Lib.hid hp
      clear ho hp
      go_wp2
      go_end0
      exact ⟨⟨_, rfl⟩, HO2.out, HP.out⟩
  · have HE : Hid (doneT t c x = t) := Lib.hid (by
      unfold doneT mayB
      rw [decide_eq_false (show ¬ x ≤ 31 by omega), if_neg (by simp)])
    rw [HE.out]
    have HX : Hid (¬ (0 ≤ (x : Int) ∧ (x : Int) < 32)) := Lib.hid (by omega)
    clear h
    go_enter Tryd.func25, Tryd.ntmps25
    go_wp2_with fail
    go_quiet ((go_at_call 30; exact Calls.quiet_of_same ((bitQ_out (fun s => t.on s c && t.busy s) x HX.out _).mono fun e w' h => ⟨h.1, h.2.symm⟩)))
    go_wp2
    go_end0
    exact ⟨⟨_, rfl⟩, (Only.refl _ _).drewN _, H.out⟩

end Go.Proofs.YtgimnkablodheaaDoor
