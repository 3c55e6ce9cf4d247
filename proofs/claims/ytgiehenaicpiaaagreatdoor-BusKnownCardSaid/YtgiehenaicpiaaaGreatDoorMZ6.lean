/- Joined: PlS7 PlTab -/
import Derived.Test.YtgiehenaicpiaaaGreatDoorMZ1
import Derived.Test.YtgiehenaicpiaaaGreatDoorMZ5
import Derived.Test.YtgiehenaicpiaaaGreatDoorRows
import Derived.ProofKit
import Derived.LaidMore
import Derived.OpenShut
import Derived.Stop.Joined
import Derived.MakeChecks
namespace Go.Proofs.YtgiehenaicpiaaaGreatDoor.P5.In
open Go.RowKit
set_option linter.unusedVariables false
set_option maxRecDepth 100000
variable {fr : Fr 4}

/-- The program's plic t stands four cells behind the beginning of block b. -/
def ProgP (fr : Fr 4) (w : World) (b : Nat) (t : PS) : Prop := w.heap[b]? = some (.cells (fr.all (varr 39 (cellQ t))) fr.ty (0, 0)) ∧ t.ok
theorem ProgP.lt {w : World} {b : Nat} {t : PS} (h : ProgP fr w b t) : b < w.heap.size := (Array.getElem?_eq_some_iff.1 h.1).1
theorem ProgP.below {w w' : World} {b : Nat} {t : PS} (h : ProgP fr w b t) (o : Below w.heap.size w w') : ProgP fr w' b t := ⟨(o.block b h.lt).trans h.1, h.2⟩
theorem ProgP.keeps {w w' : World} {b : Nat} {t : PS} {T : Nat → Prop} (h : ProgP fr w b t) (o : Only T w w') (hb : ¬ T b) : ProgP fr w' b t := ⟨o.keeps hb h.1, h.2⟩
theorem ProgP.free {w : World} {b : Nat} {t : PS} (h : ProgP fr w b t) (k : Nat) : w.frozen? ⟨b, k, none⟩ = false := frozen_of_row w b k _ _ h.1
theorem ProgP.cell {w : World} {b : Nat} {t : PS} (h : ProgP fr w b t) {i a : Nat} (hi : i < 39) (ha : a = 4 + i) {v : Value} (hv : cellQ t i = v) : w.cell? ⟨b, a, none⟩ = some v := by
  subst ha
  rw [cell_of_row w b _ _ _ _ h.1, fr.get _ _ (by rw [varr_size]; exact hi), varr_get _ _ _ hi, hv]
theorem ProgP.up_ {w : World} {b : Nat} {t : PS} (h : ProgP fr w b t) : w.cell? ⟨b, 4, none⟩ = some (.int .u32 (bits32 t.up)) := h.cell (i := 0) (by omega) (by omega) rfl
theorem ProgP.pend_ {w : World} {b : Nat} {t : PS} (h : ProgP fr w b t) : w.cell? ⟨b, 5, none⟩ = some (.int .u32 (bits32 t.pend)) := h.cell (i := 1) (by omega) (by omega) rfl
theorem ProgP.busy_ {w : World} {b : Nat} {t : PS} (h : ProgP fr w b t) : w.cell? ⟨b, 6, none⟩ = some (.int .u32 (bits32 t.busy)) := h.cell (i := 2) (by omega) (by omega) rfl
theorem ProgP.prio_ {w : World} {b : Nat} {t : PS} (h : ProgP fr w b t) {s : Nat} (hs : s < 32) : w.cell? ⟨b, 7 + s, none⟩ = some (.int .u8 (t.prio s)) := h.cell (i := 3 + s) (by omega) (by omega) (cellQ_prio t hs)
theorem ProgP.on_ {w : World} {b : Nat} {t : PS} (h : ProgP fr w b t) {c : Nat} (hc : c < 2) : w.cell? ⟨b, 39 + c, none⟩ = some (.int .u32 (bits32 fun s => t.on s c)) := h.cell (i := 35 + c) (by omega) (by omega) (cellQ_on t hc)
theorem ProgP.floor_ {w : World} {b : Nat} {t : PS} (h : ProgP fr w b t) {c : Nat} (hc : c < 2) : w.cell? ⟨b, 41 + c, none⟩ = some (.int .u8 (t.floor c)) := h.cell (i := 37 + c) (by omega) (by omega) (cellQ_floor t hc)
theorem ProgP.set {w : World} {b : Nat} {t t' : PS} (h : ProgP fr w b t) {k : Nat} (a : Nat) (ha : a = 4 + k) (hk : k < 39) (v : Value) (ok : t'.ok) (he : ∀ i, i < 39 → cellQ t' i = if i = k then v else cellQ t i) : ProgP fr (w.setCell ⟨b, a, none⟩ v) b t' := by
  refine ⟨?_, ok⟩
  subst ha
  rw [heap_setCell_same w b _ _ _ _ h.1, fr.set _ _ _ (by rw [varr_size]; exact hk), varr_set]
  rw [show (varr 39 fun i => if i = k then v else cellQ t i) = varr 39 (cellQ t') from varr_congr fun i hi => (he i hi).symm]
theorem ProgP.setUp {w : World} {b : Nat} {t : PS} (h : ProgP fr w b t) {s : Nat} (hs : 1 ≤ s) (u : Bool) : ProgP fr (w.setCell ⟨b, 4, none⟩ (.int .u32 (bits32 (upd t.up s u)))) b (upP t s u) :=
  h.set (k := 0) 4 (by omega) (by omega) _ ⟨h.2.prio0, h.2.on0, h.2.pend0, (upd_other t.up u (show ¬ 0 = s by omega)).trans h.2.up0, h.2.pr, h.2.fl⟩ (cells_eq rfl rfl rfl (fun s _ => (if_neg (by omega)).symm) (fun c _ => (if_neg (by omega)).symm) (fun c _ => (if_neg (by omega)).symm))
theorem ProgP.setPend {w : World} {b : Nat} {t : PS} (h : ProgP fr w b t) (f : Nat → Bool) (h0 : f 0 = false) : ProgP fr (w.setCell ⟨b, 5, none⟩ (.int .u32 (bits32 f))) b { t with pend := f } :=
  h.set (k := 1) 5 (by omega) (by omega) _ ⟨h.2.prio0, h.2.on0, h0, h.2.up0, h.2.pr, h.2.fl⟩ (cells_eq rfl rfl rfl (fun s _ => (if_neg (by omega)).symm) (fun c _ => (if_neg (by omega)).symm) (fun c _ => (if_neg (by omega)).symm))
theorem ProgP.setBusy {w : World} {b : Nat} {t : PS} (h : ProgP fr w b t) (f : Nat → Bool) : ProgP fr (w.setCell ⟨b, 6, none⟩ (.int .u32 (bits32 f))) b { t with busy := f } :=
  h.set (k := 2) 6 (by omega) (by omega) _ ⟨h.2.prio0, h.2.on0, h.2.pend0, h.2.up0, h.2.pr, h.2.fl⟩ (cells_eq rfl rfl rfl (fun s _ => (if_neg (by omega)).symm) (fun c _ => (if_neg (by omega)).symm) (fun c _ => (if_neg (by omega)).symm))
theorem ProgP.setPrio {w : World} {b : Nat} {t : PS} (h : ProgP fr w b t) {s : Nat} (hs : 1 ≤ s) (hs2 : s < 32) {v : Int} (h0 : 0 ≤ v) (h8 : v < 8) : ProgP fr (w.setCell ⟨b, 7 + s, none⟩ (.int .u8 v)) b (prioT t s v) :=
  h.set (k := 3 + s) _ (by omega) (by omega) _ (ok_prio h.2 hs h0 h8) (cells_eq (if_neg (by omega)).symm (if_neg (by omega)).symm (if_neg (by omega)).symm (fun i _ => by
    show Value.int .u8 (upd t.prio s v i) = _
    unfold upd
    by_cases e : i = s
    · rw [if_pos e, if_pos (by omega)]
    · rw [if_neg e, if_neg (by omega)]) (fun c _ => (if_neg (by omega)).symm) (fun c _ => (if_neg (by omega)).symm))
theorem ProgP.setFloor {w : World} {b : Nat} {t : PS} (h : ProgP fr w b t) {c : Nat} (hc : c < 2) {v : Int} (h0 : 0 ≤ v) (h8 : v < 8) : ProgP fr (w.setCell ⟨b, 41 + c, none⟩ (.int .u8 v)) b (floorT t c v) :=
  h.set (k := 37 + c) _ (by omega) (by omega) _ (ok_floor h.2 c h0 h8) (cells_eq (if_neg (by omega)).symm (if_neg (by omega)).symm (if_neg (by omega)).symm (fun i _ => (if_neg (by omega)).symm) (fun i _ => (if_neg (by omega)).symm) (fun i _ => by
    rw [floorT_at]
    by_cases e : i = c
    · rw [if_pos e, if_pos (by omega)]
    · rw [if_neg e, if_neg (by omega)]))
theorem ProgP.setOn {w : World} {b : Nat} {t : PS} (h : ProgP fr w b t) {c : Nat} (hc : c < 2) (f : Nat → Bool) (h0 : f 0 = false) : ProgP fr (w.setCell ⟨b, 39 + c, none⟩ (.int .u32 (bits32 f))) b (onT t c f) :=
  h.set (k := 35 + c) _ (by omega) (by omega) _ (ok_on h.2 c h0) (cells_eq (if_neg (by omega)).symm (if_neg (by omega)).symm (if_neg (by omega)).symm (fun i _ => (if_neg (by omega)).symm) (fun i _ => by
    show Value.int .u32 (bits32 fun s => if i = c then f s else t.on s i) = _
    by_cases e : i = c
    · rw [if_pos (show 35 + i = 35 + c by omega)]; congr 1; exact bits32_congr fun s _ => if_pos e
    · rw [if_neg (by omega)]; congr 1; exact bits32_congr fun s _ => if_neg e) (fun i _ => (if_neg (by omega)).symm))

def SetQ (fr : Fr 4) (w : World) (b : Nat) (t' : PS) (e : Ending) (w' : World) : Prop := (∃ u, e = .returned u) ∧ Only (fun i => i = b) w w' ∧ ProgP fr w' b t'
set_option maxHeartbeats 1000000 in
theorem look_any (w : World) (b : Nat) (t : PS) (h : ProgP fr w b t) (s : Nat) (h1 : 1 ≤ s) (hs : s < 32) :
    Calls Tryz.prog 91 #[.pointer (some ⟨b, 4, none⟩), .int .i64 s] w (SetQ fr w b (lookP t s)) := by
  have c0 := h.up_
  have c1 := h.pend_
  have c2 := h.busy_
  have f1 := h.free 5
  have H := Lib.hid h
  have HN : Hid (ProgP fr (w.drew.setCell ⟨b, 5, none⟩ (.int .u32 (bits32 (upd t.pend s true)))) b { t with pend := upd t.pend s true }) := Lib.hid (ProgP.setPend (w := w.drew) ⟨h.1, h.2⟩ _ (upd0 h.2.pend0 h1 true))
  have HO : Hid (Only (fun i => i = b) w (w.drew.setCell ⟨b, 5, none⟩ (.int .u32 (bits32 (upd t.pend s true))))) := Lib.hid (Only.setCell ((Only.refl (fun i => i = b) w).drewN 1) (p := ⟨b, 5, none⟩) (.inl rfl) _)
  have H1 := Lib.hid (one_shl hs)
  have H2 := Lib.hid (set32 t.pend hs)
  clear h
  generalize hu : t.up s = u at *
  generalize hb : t.busy s = v at *
  have HU := Lib.hid hu
  have HB := Lib.hid hb
  have HL : Hid (lookP t s = if u && !v then { t with pend := upd t.pend s true } else t) := Lib.hid (by unfold lookP; rw [hu, hb])
  clear hu hb
  cases u with
  | false =>
    have HE : Hid (lookP t s = t) := Lib.hid (by rw [HL.out]; rfl)
    rw [HE.out]
    go_enter Tryz.func91, Tryz.ntmps91
    go_wp2_with fail
    (with_reducible refine (bitQ t.up s hs _ HU.out _).mono ?_)
    rintro e w' ⟨rfl, rfl⟩
    go_wp2
    go_end0
    exact ⟨⟨_, rfl⟩, Only.refl _ _, H.out⟩
  | true =>
  cases v with
  | true =>
    have HE : Hid (lookP t s = t) := Lib.hid (by rw [HL.out]; rfl)
    rw [HE.out]
    go_enter Tryz.func91, Tryz.ntmps91
    go_wp2_with fail
    (with_reducible refine (bitQ t.up s hs _ HU.out _).mono ?_)
    rintro e w' ⟨rfl, rfl⟩
    go_wp2_with fail
    (with_reducible refine (bitQ t.busy s hs _ HB.out _).mono ?_)
    rintro e w' ⟨rfl, rfl⟩
    go_wp2
    go_end0
    exact ⟨⟨_, rfl⟩, Only.refl _ _, H.out⟩
  | false =>
    have HE : Hid (lookP t s = { t with pend := upd t.pend s true }) := Lib.hid (by rw [HL.out]; rfl)
    rw [HE.out]
    go_enter Tryz.func91, Tryz.ntmps91
    go_wp2_with fail
    (with_reducible refine (bitQ t.up s hs _ HU.out _).mono ?_)
    rintro e w' ⟨rfl, rfl⟩
    go_wp2_with fail
    (with_reducible refine (bitQ t.busy s hs _ HB.out _).mono ?_)
    rintro e w' ⟨rfl, rfl⟩
    go_wp2_with fail
    go_still_tail 9, (by kernel_rfl)
    change wpList _ _ _ _ _ w.drew
    have d1 : w.drew.frozen? ⟨b, 5, none⟩ = false := f1
    have e1 := H1.out
    have e2 := H2.out
    go_wp2
    go_end0
    exact ⟨⟨_, rfl⟩, HO.out, HN.out⟩
def ProgEnd (fr : Fr 4) (w : World) (b : Nat) (r : Value) (t' : PS) (e : Ending) (w' : World) : Prop := e = .returned r ∧ Only (fun i => i = b) w w' ∧ ProgP fr w' b t'
set_option maxHeartbeats 1000000 in
theorem level_any (w : World) (b : Nat) (t : PS) (s : Int) (u : Bool) (h : ProgP fr w b t) :
    Calls Tryz.prog 45 #[.pointer (some ⟨b, 4, none⟩), .int .i64 s, .bool u] w (ProgEnd fr w b (.bool (isS s)) (levelP t s u)) := by
  cases hs : isS s with
  | false =>
    have HE : Hid (ProgEnd fr w b (.bool false) (levelP t s u) (.returned (.bool false)) w) := by
      refine Lib.hid ⟨rfl, Only.refl _ _, ?_⟩
      unfold levelP; rw [hs, if_neg (by simp)]; exact h
    have HS := Lib.hid hs
    clear h hs
    go_enter Tryz.func45, Tryz.ntmps45
    go_wp2_with fail
    (with_reducible refine (isSource_any _ _).mono ?_)
    rintro e w' ⟨rfl, rfl⟩
    rw [HS.out]
    go_wp2
    go_ret
    exact HE.out
  | true =>
    obtain ⟨k, rfl, hk1, hk2⟩ := isS_nat hs
    have HS := Lib.hid hs
    have HL : Hid (levelP t (k : Int) u = lookP (upP t k u) k) := by
      refine Lib.hid ?_
      unfold levelP; rw [hs, if_pos rfl]; rfl
    have c0 := h.up_
    have f0 := h.free 4
    have HN : Hid (ProgP fr (w.drew.setCell ⟨b, 4, none⟩ (.int .u32 (bits32 (upd t.up k u)))) b (upP t k u)) := Lib.hid (ProgP.setUp (w := w.drew) ⟨h.1, h.2⟩ hk1 u)
    have HO : Hid (Only (fun i => i = b) w (w.drew.setCell ⟨b, 4, none⟩ (.int .u32 (bits32 (upd t.up k u))))) := Lib.hid (Only.setCell ((Only.refl (fun i => i = b) w).drewN 1) (p := ⟨b, 4, none⟩) (.inl rfl) _)
    have H1 := Lib.hid (one_shl hk2)
    have H2 := Lib.hid (set32 t.up hk2)
    have H3 := Lib.hid (clr32 t.up hk2)
    clear h hs
    rw [HL.out]
    cases u <;>
    · go_enter Tryz.func45, Tryz.ntmps45
      go_wp2_with fail
      (with_reducible refine (isSource_any _ _).mono ?_)
      rintro e w' ⟨rfl, rfl⟩
      rw [HS.out]
      go_wp2_with fail
      go_still_tail 9, (by kernel_rfl)
      change wpList _ _ _ _ _ w.drew
      have d1 : w.drew.frozen? ⟨b, 4, none⟩ = false := f0
      have d0 : w.drew.cell? ⟨b, 4, none⟩ = some (.int .u32 (bits32 t.up)) := c0
      generalize w.drew = wd at *
      have e1 := H1.out
      have e2 := H2.out
      have e3 := H3.out
      go_wp2_with fail
      clear e1 e2 e3
      (with_reducible refine (look_any _ b _ HN.out k hk1 hk2).mono ?_)
      rintro e w' ⟨hu, ho, hp⟩
      obtain ⟨v, rfl⟩ := hu
      have HO2 := Lib.hid (HO.out.trans ho)
      have HP := Lib.hid hp
      clear ho hp
      go_wp2
      go_ret
      exact ⟨rfl, HO2.out, HP.out⟩
theorem setPriority_no (w : World) (b : Nat) (i v : Int) (hi : isS i = false) : Calls Tryz.prog 126 #[.pointer (some ⟨b, 4, none⟩), .int .i64 i, .int .u64 v] w fun e w' => (∃ u, e = .returned u) ∧ w = w' := by
  have HI := Lib.hid hi
  clear hi
  go_enter Tryz.func126, Tryz.ntmps126
  go_wp2_with fail
  (with_reducible refine (isSource_any _ _).mono ?_)
  rintro e w' ⟨rfl, rfl⟩
  rw [HI.out]
  go_wp2
  go_end0
  exact ⟨⟨_, rfl⟩, rfl⟩
set_option maxHeartbeats 1000000 in
theorem setPriority_yes (w : World) (b : Nat) (t : PS) (h : ProgP fr w b t) (k : Nat) (h1 : 1 ≤ k) (h2 : k < 32) (v : Int) (hv : In64 v) :
    Calls Tryz.prog 126 #[.pointer (some ⟨b, 4, none⟩), .int .i64 k, .int .u64 v] w (SetQ fr w b (prioT t k (v % 8))) := by
  have HI : Hid (isS (k : Int) = true) := Lib.hid (by unfold isS; rw [decide_eq_true (by omega)])
  have HV := Lib.hid hv
  have h8 := low3 hv
  have hr1 := Int.emod_nonneg v (show (8 : Int) ≠ 0 by decide)
  have hr2 := Int.emod_lt_of_pos v (show (0 : Int) < 8 by decide)
  have HN : Hid (∀ n, ProgP fr ((w.drewN n).setCell ⟨b, 7 + k, none⟩ (.int .u8 (v % 8))) b (prioT t k (v % 8))) := Lib.hid fun n => ProgP.setPrio (w := w.drewN n) ⟨h.1, h.2⟩ h1 h2 hr1 hr2
  have HO : Hid (∀ n, Only (fun i => i = b) w ((w.drewN n).setCell ⟨b, 7 + k, none⟩ (.int .u8 (v % 8)))) := Lib.hid fun n => Only.setCell ((Only.refl (fun i => i = b) w).drewN n) (p := ⟨b, 7 + k, none⟩) (.inl rfl) _
  have H8 := Lib.hid (wrap_u8 hr1 hr2)
  have ff := h.free (7 + k)
  have cc := h.prio_ h2
  have i1 : (k : Int) < 32 := by omega
  have HL := Lib.hid h8
  clear h hv h8 hr1 hr2
  go_enter Tryz.func126, Tryz.ntmps126
  go_wp2_with fail
  (with_reducible refine (isSource_any _ _).mono ?_)
  rintro e w' ⟨rfl, rfl⟩
  rw [HI.out]
  go_wp2_with fail
  go_region_with (go_at_call 117; refine (field_any _ _ _ HV.out _).mono ?_; rintro e w' ⟨rfl, q, rfl⟩; rw [HL.out]; have e8 := H8.out; have f8 : (w.drew.drewN q).frozen? ⟨b, 7 + k, none⟩ = false := ff; have g8 : (w.drew.drewN q).cell? ⟨b, 7 + k, none⟩ = some (.int .u8 (t.prio k)) := cc)
  go_end0
  exact ⟨⟨_, rfl⟩, HO.out _, HN.out _⟩
set_option maxHeartbeats 1000000 in
theorem complete_any (w : World) (b : Nat) (t : PS) (h : ProgP fr w b t) (c : Nat) (hc : c < 2) (x : Nat) :
    Calls Tryz.prog 127 #[.pointer (some ⟨b, 4, none⟩), .int .i64 c, .int .i64 x] w (SetQ fr w b (doneT t c x)) := by
  have con := h.on_ hc
  have cbu := h.busy_
  have fbu := h.free 6
  have H := Lib.hid h
  have i1 : (c : Int) < 2 := by omega
  have hand := both32 (fun s => t.on s c) t.busy
  by_cases hx : x < 32
  · obtain ⟨u, hu⟩ : ∃ u, (t.on x c && t.busy x) = u := ⟨_, rfl⟩
    have HU := Lib.hid hu
    cases u with
    | false =>
      have HE : Hid (doneT t c x = t) := Lib.hid (by
        unfold doneT mayB
        rw [if_neg]
        rw [Bool.and_assoc, hu]; simp)
      rw [HE.out]
      clear hu h
      go_enter Tryz.func127, Tryz.ntmps127
      go_wp2_with fail
      go_quiet ((go_at_call 87; exact Calls.quiet_of_same ((bitQ (fun s => t.on s c && t.busy s) x hx false HU.out _).mono fun e w' h => ⟨h.1, h.2.symm⟩)))
      go_wp2
      go_end0
      exact ⟨⟨_, rfl⟩, (Only.refl _ _).drewN _, H.out⟩
    | true =>
      have hx1 : 1 ≤ x := by
        rcases Nat.eq_zero_or_pos x with rfl | h0
        · rw [h.2.on0] at hu; cases hu
        · exact h0
      have HE : Hid (doneT t c x = lookP (idleP t x) x) := Lib.hid (by
        unfold doneT mayB
        rw [Bool.and_assoc, hu, if_pos]
        simp; omega)
      rw [HE.out]
      have H1 := Lib.hid (one_shl hx)
      have H2 := Lib.hid (clr32 t.busy hx)
      clear hu h
      go_enter Tryz.func127, Tryz.ntmps127
      go_wp2_with fail
      go_quiet ((go_at_call 87; exact Calls.quiet_of_same ((bitQ (fun s => t.on s c && t.busy s) x hx true HU.out _).mono fun e w' h => ⟨h.1, h.2.symm⟩)))
      have dbu : (w.drewN nq).cell? ⟨b, 6, none⟩ = some (.int .u32 (bits32 t.busy)) := cbu
      have dfu : (w.drewN nq).frozen? ⟨b, 6, none⟩ = false := fbu
      have HQ : Hid (ProgP fr (w.drewN nq) b t) := Lib.hid H.out
      have HW : Hid (Only (fun i => i = b) w (w.drewN nq)) := Lib.hid ((Only.refl _ _).drewN nq)
      generalize w.drewN nq = wq at *
      go_wp2_with fail
      go_still_tail 9, (by kernel_rfl)
      have HN : Hid (ProgP fr (wq.drew.setCell ⟨b, 6, none⟩ (.int .u32 (bits32 (upd t.busy x false)))) b (idleP t x)) := Lib.hid (ProgP.setBusy (w := wq.drew) HQ.out _)
      have HO : Hid (Only (fun i => i = b) w (wq.drew.setCell ⟨b, 6, none⟩ (.int .u32 (bits32 (upd t.busy x false))))) := Lib.hid (Only.setCell (HW.out.drewN 1) (p := ⟨b, 6, none⟩) (.inl rfl) _)
      change wpList _ _ _ _ _ wq.drew
      have d1 : wq.drew.frozen? ⟨b, 6, none⟩ = false := dfu
      have d0 : wq.drew.cell? ⟨b, 6, none⟩ = some (.int .u32 (bits32 t.busy)) := dbu
      generalize wq.drew = wd at *
      have e1 := H1.out
      have e2 := H2.out
      clear hand
      go_wp2_with fail
      clear e1 e2
      (with_reducible refine (look_any _ b _ HN.out x hx1 hx).mono ?_)
      rintro e w' ⟨hu, ho, hp⟩
      obtain ⟨v, rfl⟩ := hu
      have HO2 := Lib.hid (HO.out.trans ho)
      have HP := Lib.hid hp
      clear ho hp
      go_wp2
      go_end0
      exact ⟨⟨_, rfl⟩, HO2.out, HP.out⟩
  · have HE : Hid (doneT t c x = t) := Lib.hid (by
      unfold doneT mayB
      rw [decide_eq_false (show ¬ x ≤ 31 by omega), if_neg (by simp)])
    rw [HE.out]
    have HX : Hid (¬ (0 ≤ (x : Int) ∧ (x : Int) < 32)) := Lib.hid (by omega)
    clear h
    go_enter Tryz.func127, Tryz.ntmps127
    go_wp2_with fail
    go_quiet ((go_at_call 87; exact Calls.quiet_of_same ((bitQ_out (fun s => t.on s c && t.busy s) x HX.out _).mono fun e w' h => ⟨h.1, h.2.symm⟩)))
    go_wp2
    go_end0
    exact ⟨⟨_, rfl⟩, (Only.refl _ _).drewN _, H.out⟩
set_option maxHeartbeats 2000000 in
theorem claim_any (w : World) (b : Nat) (t : PS) (h : ProgP fr w b t) (c : Int) (k : Nat) (hk : bestC t c = k) :
    Calls Tryz.prog 125 #[.pointer (some ⟨b, 4, none⟩), .int .i64 c] w (ProgEnd fr w b (.int .i64 k) (claimed t k)) := by
  have hle := bestC_le t c
  have hbest := fun w' => best_any w' t h.2 c
  rw [hk] at hbest
  unfold progPV at hbest
  have HBEST := Lib.hid hbest
  have HROW : Hid (w.rangeAt b 4 (varr 39 (cellQ t)).toList) := Lib.hid (fr.range h.1)
  have HSZ : Hid ((varr 39 (cellQ t)).size = 39) := Lib.hid (varr_size _ _)
  have H := Lib.hid h
  rw [hk] at hle
  clear h hk hbest
  generalize varr 39 (cellQ t) = row at *
  go_enter Tryz.func125, Tryz.ntmps125
  go_wp2_with (refine wpList_load_fr rfl _ _ rfl b 4 rfl _ _ HROW.out Tryz.underlying69 rfl ?_ ?_; · exact size_progP.trans (by rw [HSZ.out]))
  refine (HBEST.out _).mono ?_
  rintro e w2 ⟨rfl, hb⟩
  have HB2 := Lib.hid hb
  have HP := Lib.hid (H.out.below hb)
  clear hb HROW HSZ HBEST H
  by_cases k0 : k = 0
  · subst k0
    have HC : Hid (claimed t 0 = t) := Lib.hid (by unfold claimed; rw [if_pos rfl])
    rw [HC.out]
    go_wp2
    go_ret
    exact ⟨rfl, Only.of_below _ HB2.out, HP.out⟩
  · have hk : (0 : Int) < (k : Int) := by omega
    have hk1 : 1 ≤ k := by omega
    have hk32 : k < 32 := by omega
    have HC : Hid (claimed t k = claimP t k) := Lib.hid (by unfold claimed; rw [if_neg k0])
    rw [HC.out]
    have c1 := HP.out.pend_
    have f1 := HP.out.free 5
    have H1 := Lib.hid (one_shl hk32)
    have H2 := Lib.hid (clr32 t.pend hk32)
    have H3 := Lib.hid (set32 t.busy hk32)
    clear k0
    go_wp2_with fail
    go_still_tail 9, (by kernel_rfl)
    change wpList _ _ _ _ _ w2.drew
    have HPD : Hid (ProgP fr w2.drew b t) := Lib.hid HP.out
    have HBD : Hid (Below w.heap.size w w2.drew) := Lib.hid HB2.out.drew
    have d0 : w2.drew.cell? ⟨b, 5, none⟩ = some (.int .u32 (bits32 t.pend)) := c1
    have d1 : w2.drew.frozen? ⟨b, 5, none⟩ = false := f1
    clear c1 f1
    generalize w2.drew = w3 at *
    have HN : Hid (ProgP fr (w3.setCell ⟨b, 5, none⟩ (.int .u32 (bits32 (upd t.pend k false)))) b (unpendP t k)) := Lib.hid (HPD.out.setPend _ (upd0 HPD.out.2.pend0 hk1 false))
    have HO : Hid (Only (fun i => i = b) w (w3.setCell ⟨b, 5, none⟩ (.int .u32 (bits32 (upd t.pend k false))))) := Lib.hid ((Only.of_below (fun i => i = b) HBD.out).setCell (p := ⟨b, 5, none⟩) (.inl rfl) _)
    have e1 := H1.out
    have e2 := H2.out
    go_wp2_with fail
    clear e1 e2 d0 d1
    generalize w3.setCell ⟨b, 5, none⟩ (.int .u32 (bits32 (upd t.pend k false))) = w4 at *
    have d2 : w4.cell? ⟨b, 6, none⟩ = some (.int .u32 (bits32 t.busy)) := HN.out.busy_
    have f2 := HN.out.free 6
    go_still_tail 9, (by kernel_rfl)
    change wpList _ _ _ _ _ w4.drew
    have HND : Hid (ProgP fr w4.drew b (unpendP t k)) := Lib.hid HN.out
    have HOD : Hid (Only (fun i => i = b) w w4.drew) := Lib.hid (HO.out.drewN 1)
    have g2 : w4.drew.cell? ⟨b, 6, none⟩ = some (.int .u32 (bits32 t.busy)) := d2
    have g3 : w4.drew.frozen? ⟨b, 6, none⟩ = false := f2
    clear d2 f2
    generalize w4.drew = w5 at *
    have HN2 : Hid (ProgP fr (w5.setCell ⟨b, 6, none⟩ (.int .u32 (bits32 (upd t.busy k true)))) b (claimP t k)) := Lib.hid (HND.out.setBusy (upd t.busy k true))
    have HO2 : Hid (Only (fun i => i = b) w (w5.setCell ⟨b, 6, none⟩ (.int .u32 (bits32 (upd t.busy k true))))) := Lib.hid (HOD.out.setCell (p := ⟨b, 6, none⟩) (.inl rfl) _)
    have e1 := H1.out
    have e3 := H3.out
    go_wp2
    go_ret
    exact ⟨rfl, HO2.out, by rw [HC.out]; exact HN2.out⟩
theorem read_len (w : World) (b : Nat) (t : PS) (h : ProgP fr w b t) (off n : Int) (hn : ¬ n = 4) : Calls Tryz.prog 80 #[.pointer (some ⟨b, 4, none⟩), .int .u64 off, .int .i64 n] w (ProgEnd fr w b (.tuple #[.int .u64 0, .bool false]) t) := by
  have HN := Lib.hid hn
  have H := Lib.hid h
  clear hn h
  go_enter Tryz.func80, Tryz.ntmps80
  go_wp2_with fail
  refine (find_len _ off n HN.out).mono ?_
  rintro e w2 ⟨rfl, hb⟩
  have HB := Lib.hid hb
  clear hb
  go_wp2
  go_ret2
  exact ⟨rfl, Only.of_below _ HB.out, H.out.below HB.out⟩
theorem read_no (w : World) (b : Nat) (t : PS) (h : ProgP fr w b t) (ht : Tab w) (off : Int) (hn : NoPlic off) (ho : In64 off) : Calls Tryz.prog 80 #[.pointer (some ⟨b, 4, none⟩), .int .u64 off, .int .i64 4] w (ProgEnd fr w b (.tuple #[.int .u64 0, .bool false]) t) := by
  have HF := Lib.hid (find_is w off ht _ _ _ (findQ_no hn ho))
  have H := Lib.hid h
  clear hn h ho ht
  go_enter Tryz.func80, Tryz.ntmps80
  go_wp2_with fail
  (with_reducible refine (HF.out).mono ?_)
  rintro e w2 ⟨rfl, hb⟩
  have HB := Lib.hid hb
  clear hb
  go_wp2
  go_ret2
  exact ⟨rfl, Only.of_below _ HB.out, H.out.below HB.out⟩
theorem read_prio (w : World) (b : Nat) (t : PS) (h : ProgP fr w b t) (ht : Tab w) (k : Nat) (hk : k < 32) (off : Int) (ho : off = 4 * (k : Int)) : Calls Tryz.prog 80 #[.pointer (some ⟨b, 4, none⟩), .int .u64 off, .int .i64 4] w (ProgEnd fr w b (.tuple #[.int .u64 (t.prio k), .bool true]) t) := by
  have HF := Lib.hid (find_is w off ht 0 (k : Int) true (by rw [ho]; exact findQ_prio hk))
  have H := Lib.hid h
  have hw := wrap_u64s (h.2.pr k).1 (by have := (h.2.pr k).2; omega)
  have i1 : (k : Int) < 32 := by omega
  clear h ht ho
  go_enter Tryz.func80, Tryz.ntmps80
  go_wp2_with fail
  (with_reducible refine (HF.out).mono ?_)
  rintro e w2 ⟨rfl, hb⟩
  have HB := Lib.hid hb
  have c0 := (H.out.below hb).prio_ hk
  clear hb
  go_wp2
  go_ret2
  exact ⟨rfl, Only.of_below _ HB.out, H.out.below HB.out⟩
theorem read_pend (w : World) (b : Nat) (t : PS) (h : ProgP fr w b t) (ht : Tab w) : Calls Tryz.prog 80 #[.pointer (some ⟨b, 4, none⟩), .int .u64 4096, .int .i64 4] w (ProgEnd fr w b (.tuple #[.int .u64 (bits32 t.pend), .bool true]) t) := by
  have HF := Lib.hid (find_is w 4096 ht 1 0 true (by decide))
  have H := Lib.hid h
  have hw := wrap_u64s (bits32_bd t.pend).1 (bits32_bd t.pend).2
  clear h ht
  go_enter Tryz.func80, Tryz.ntmps80
  go_wp2_with fail
  (with_reducible refine (HF.out).mono ?_)
  rintro e w2 ⟨rfl, hb⟩
  have HB := Lib.hid hb
  have c0 := (H.out.below hb).pend_
  clear hb
  go_wp2
  go_ret2
  exact ⟨rfl, Only.of_below _ HB.out, H.out.below HB.out⟩
theorem read_on (w : World) (b : Nat) (t : PS) (h : ProgP fr w b t) (ht : Tab w) (c : Nat) (hc : c < 2) (off : Int) (hf : findQ off = (2, (c : Int), true)) : Calls Tryz.prog 80 #[.pointer (some ⟨b, 4, none⟩), .int .u64 off, .int .i64 4] w (ProgEnd fr w b (.tuple #[.int .u64 (bits32 fun s => t.on s c), .bool true]) t) := by
  have HF := Lib.hid (find_is w off ht _ _ _ hf)
  have H := Lib.hid h
  have hw := wrap_u64s (bits32_bd fun s => t.on s c).1 (bits32_bd fun s => t.on s c).2
  have i1 : (c : Int) < 2 := by omega
  clear h ht hf
  go_enter Tryz.func80, Tryz.ntmps80
  go_wp2_with fail
  (with_reducible refine (HF.out).mono ?_)
  rintro e w2 ⟨rfl, hb⟩
  have HB := Lib.hid hb
  have c0 := (H.out.below hb).on_ hc
  clear hb
  go_wp2
  go_ret2
  exact ⟨rfl, Only.of_below _ HB.out, H.out.below HB.out⟩
theorem read_floor (w : World) (b : Nat) (t : PS) (h : ProgP fr w b t) (ht : Tab w) (c : Nat) (hc : c < 2) (off : Int) (hf : findQ off = (3, (c : Int), true)) : Calls Tryz.prog 80 #[.pointer (some ⟨b, 4, none⟩), .int .u64 off, .int .i64 4] w (ProgEnd fr w b (.tuple #[.int .u64 (t.floor c), .bool true]) t) := by
  have HF := Lib.hid (find_is w off ht _ _ _ hf)
  have H := Lib.hid h
  have hw := wrap_u64s (h.2.fl c).1 (by have := (h.2.fl c).2; omega)
  have i1 : (c : Int) < 2 := by omega
  clear h ht hf
  go_enter Tryz.func80, Tryz.ntmps80
  go_wp2_with fail
  (with_reducible refine (HF.out).mono ?_)
  rintro e w2 ⟨rfl, hb⟩
  have HB := Lib.hid hb
  have c0 := (H.out.below hb).floor_ hc
  clear hb
  go_wp2
  go_ret2
  exact ⟨rfl, Only.of_below _ HB.out, H.out.below HB.out⟩
theorem read_claim (w : World) (b : Nat) (t : PS) (h : ProgP fr w b t) (ht : Tab w) (c : Nat) (hc : c < 2) (off : Int) (hf : findQ off = (4, (c : Int), true)) : Calls Tryz.prog 80 #[.pointer (some ⟨b, 4, none⟩), .int .u64 off, .int .i64 4] w (ProgEnd fr w b (.tuple #[.int .u64 (bestC t c), .bool true]) (claimed t (bestC t c))) := by
  have HF := Lib.hid (find_is w off ht _ _ _ hf)
  have H := Lib.hid h
  have hle := bestC_le t c
  have HCL : Hid (∀ w2, ProgP fr w2 b t → Calls Tryz.prog 125 #[.pointer (some ⟨b, 4, none⟩), .int .i64 c] w2 (ProgEnd fr w2 b (.int .i64 (bestC t c)) (claimed t (bestC t c)))) := Lib.hid fun w2 h2 => claim_any w2 b t h2 c _ rfl
  generalize bestC t (c : Int) = k at *
  have hw : IntKind.u64.wrap (k : Int) = k := wrap_u64s (by omega) (by omega)
  clear h ht hf
  go_enter Tryz.func80, Tryz.ntmps80
  go_wp2_with fail
  (with_reducible refine (HF.out).mono ?_)
  rintro e w2 ⟨rfl, hb⟩
  have HB := Lib.hid hb
  clear hb
  go_wp2_with fail
  (with_reducible refine (HCL.out _ (H.out.below HB.out)).mono ?_)
  rintro e w3 ⟨rfl, ho, hp⟩
  have HO := Lib.hid ((Only.of_below _ HB.out).trans ho)
  have HP := Lib.hid hp
  clear ho hp
  go_wp2
  go_ret2
  exact ⟨rfl, HO.out, HP.out⟩
theorem read_any (w : World) (b : Nat) (t : PS) (h : ProgP fr w b t) (ht : Tab w) (off n : Int) (ho : In64 off) :
    Calls Tryz.prog 80 #[.pointer (some ⟨b, 4, none⟩), .int .u64 off, .int .i64 n] w (ProgEnd fr w b (.tuple #[.int .u64 (rdX t (plcK off n)), .bool (okP (plcK off n))]) (rdT t (plcK off n))) := by
  rcases plc_cases off n ho.1 with ⟨rfl, k, hk, hk4, hp⟩ | ⟨rfl, rfl, hp⟩ | ⟨rfl, rfl, hp⟩ | ⟨rfl, rfl, hp⟩ | ⟨rfl, rfl, hp⟩ | ⟨rfl, rfl, hp⟩ | ⟨rfl, rfl, hp⟩ | ⟨rfl, rfl, hp⟩ | ⟨rfl, hn, hp⟩ | ⟨hn, hp⟩
  all_goals rw [hp]
  · exact read_prio w b t h ht k hk off hk4
  · exact read_pend w b t h ht
  · exact read_on w b t h ht 0 (by omega) _ (by decide)
  · exact read_on w b t h ht 1 (by omega) _ (by decide)
  · exact read_floor w b t h ht 0 (by omega) _ (by decide)
  · exact read_floor w b t h ht 1 (by omega) _ (by decide)
  · exact read_claim w b t h ht 0 (by omega) _ (by decide)
  · exact read_claim w b t h ht 1 (by omega) _ (by decide)
  · exact read_no w b t h ht off hn ho
  · exact read_len w b t h off n hn
theorem write_len (w : World) (b : Nat) (t : PS) (h : ProgP fr w b t) (off n v : Int) (hn : ¬ n = 4) : Calls Tryz.prog 81 #[.pointer (some ⟨b, 4, none⟩), .int .u64 off, .int .i64 n, .int .u64 v] w (ProgEnd fr w b (.bool false) t) := by
  have HN := Lib.hid hn
  have H := Lib.hid h
  clear hn h
  go_enter Tryz.func81, Tryz.ntmps81
  go_wp2_with fail
  refine (find_len _ off n HN.out).mono ?_
  rintro e w2 ⟨rfl, hb⟩
  have HB := Lib.hid hb
  clear hb
  go_wp2
  go_ret
  exact ⟨rfl, Only.of_below _ HB.out, H.out.below HB.out⟩
theorem write_no (w : World) (b : Nat) (t : PS) (h : ProgP fr w b t) (ht : Tab w) (off v : Int) (hn : NoPlic off) (ho : In64 off) : Calls Tryz.prog 81 #[.pointer (some ⟨b, 4, none⟩), .int .u64 off, .int .i64 4, .int .u64 v] w (ProgEnd fr w b (.bool false) t) := by
  have HF := Lib.hid (find_is w off ht _ _ _ (findQ_no hn ho))
  have H := Lib.hid h
  clear hn h ho ht
  go_enter Tryz.func81, Tryz.ntmps81
  go_wp2_with fail
  (with_reducible refine (HF.out).mono ?_)
  rintro e w2 ⟨rfl, hb⟩
  have HB := Lib.hid hb
  clear hb
  go_wp2
  go_ret
  exact ⟨rfl, Only.of_below _ HB.out, H.out.below HB.out⟩
theorem write_pend (w : World) (b : Nat) (t : PS) (h : ProgP fr w b t) (ht : Tab w) (v : Int) : Calls Tryz.prog 81 #[.pointer (some ⟨b, 4, none⟩), .int .u64 4096, .int .i64 4, .int .u64 v] w (ProgEnd fr w b (.bool true) t) := by
  have HF := Lib.hid (find_is w 4096 ht 1 0 true (by decide))
  have H := Lib.hid h
  clear h ht
  go_enter Tryz.func81, Tryz.ntmps81
  go_wp2_with fail
  (with_reducible refine (HF.out).mono ?_)
  rintro e w2 ⟨rfl, hb⟩
  have HB := Lib.hid hb
  clear hb
  go_wp2
  go_ret
  exact ⟨rfl, Only.of_below _ HB.out, H.out.below HB.out⟩
theorem write_prio0 (w : World) (b : Nat) (t : PS) (h : ProgP fr w b t) (ht : Tab w) (v : Int) : Calls Tryz.prog 81 #[.pointer (some ⟨b, 4, none⟩), .int .u64 0, .int .i64 4, .int .u64 v] w (ProgEnd fr w b (.bool true) t) := by
  have HF := Lib.hid (find_is w 0 ht 0 0 true (by decide))
  have H := Lib.hid h
  clear h ht
  go_enter Tryz.func81, Tryz.ntmps81
  go_wp2_with fail
  (with_reducible refine (HF.out).mono ?_)
  rintro e w2 ⟨rfl, hb⟩
  have HB := Lib.hid hb
  clear hb
  go_wp2_with fail
  (with_reducible refine (setPriority_no _ _ _ _ (by decide)).mono ?_)
  rintro e w3 ⟨hu, rfl⟩
  obtain ⟨u, rfl⟩ := hu
  go_wp2
  go_ret
  exact ⟨rfl, Only.of_below _ HB.out, H.out.below HB.out⟩
theorem write_prio (w : World) (b : Nat) (t : PS) (h : ProgP fr w b t) (ht : Tab w) (k : Nat) (hk1 : 1 ≤ k) (hk : k < 32) (off v : Int) (ho : off = 4 * (k : Int)) (hv : In64 v) : Calls Tryz.prog 81 #[.pointer (some ⟨b, 4, none⟩), .int .u64 off, .int .i64 4, .int .u64 v] w (ProgEnd fr w b (.bool true) (prioT t k (v % 8))) := by
  have HF := Lib.hid (find_is w off ht 0 (k : Int) true (by rw [ho]; exact findQ_prio hk))
  have H := Lib.hid h
  have HV := Lib.hid hv
  clear h ht ho hv
  go_enter Tryz.func81, Tryz.ntmps81
  go_wp2_with fail
  (with_reducible refine (HF.out).mono ?_)
  rintro e w2 ⟨rfl, hb⟩
  have HB := Lib.hid hb
  have HP := Lib.hid (H.out.below hb)
  clear hb
  go_wp2_with fail
  (with_reducible refine (setPriority_yes _ b t HP.out k hk1 hk v HV.out).mono ?_)
  rintro e w3 ⟨hu, ho, hp⟩
  obtain ⟨u, rfl⟩ := hu
  have HO := Lib.hid ((Only.of_below _ HB.out).trans ho)
  have HP3 := Lib.hid hp
  clear ho hp
  go_wp2
  go_ret
  exact ⟨rfl, HO.out, HP3.out⟩
theorem write_on (w : World) (b : Nat) (t : PS) (h : ProgP fr w b t) (ht : Tab w) (c : Nat) (hc : c < 2) (off v : Int) (hf : findQ off = (2, (c : Int), true)) (hv : In64 v) : Calls Tryz.prog 81 #[.pointer (some ⟨b, 4, none⟩), .int .u64 off, .int .i64 4, .int .u64 v] w (ProgEnd fr w b (.bool true) (onT t c (onBits v))) := by
  have HF := Lib.hid (find_is w off ht _ _ _ hf)
  have H := Lib.hid h
  have hw : IntKind.u32.wrap v = v % 4294967296 := by rw [IntKind.wrap_u32]
  have hn1 := not1_32 hv.1
  have H1 := Lib.hid hw
  have H2 := Lib.hid hn1
  have i1 : (c : Int) < 2 := by omega
  clear h ht hf hv hw hn1
  go_enter Tryz.func81, Tryz.ntmps81
  go_wp2_with fail
  (with_reducible refine (HF.out).mono ?_)
  rintro e w2 ⟨rfl, hb⟩
  have HB := Lib.hid hb
  have HP := H.out.below hb
  have c0 := HP.on_ hc
  have f0 := HP.free (39 + c)
  have HP2 := Lib.hid (HP.setOn hc (onBits v) (by unfold onBits; rfl))
  have HO : Hid (Only (fun i => i = b) w (w2.setCell ⟨b, 39 + c, none⟩ (.int .u32 (bits32 (onBits v))))) := Lib.hid ((Only.of_below (fun i => i = b) HB.out).setCell (p := ⟨b, 39 + c, none⟩) (.inl rfl) _)
  have e1 := H1.out
  have e2 := H2.out
  clear hb HP
  go_wp2
  go_ret
  exact ⟨rfl, HO.out, HP2.out⟩
set_option maxHeartbeats 1000000 in
theorem write_floor (w : World) (b : Nat) (t : PS) (h : ProgP fr w b t) (ht : Tab w) (c : Nat) (hc : c < 2) (off v : Int) (hf : findQ off = (3, (c : Int), true)) (hv : In64 v) : Calls Tryz.prog 81 #[.pointer (some ⟨b, 4, none⟩), .int .u64 off, .int .i64 4, .int .u64 v] w (ProgEnd fr w b (.bool true) (floorT t c (v % 8))) := by
  have HF := Lib.hid (find_is w off ht _ _ _ hf)
  have H := Lib.hid h
  have HV := Lib.hid hv
  have HL := Lib.hid (low3 hv)
  have hr1 := Int.emod_nonneg v (show (8 : Int) ≠ 0 by decide)
  have hr2 := Int.emod_lt_of_pos v (show (0 : Int) < 8 by decide)
  have H8 := Lib.hid (wrap_u8 hr1 hr2)
  have HR : Hid (0 ≤ v % 8 ∧ v % 8 < 8) := Lib.hid ⟨hr1, hr2⟩
  have i1 : (c : Int) < 2 := by omega
  clear h ht hf hv hr1 hr2
  go_enter Tryz.func81, Tryz.ntmps81
  go_wp2_with fail
  (with_reducible refine (HF.out).mono ?_)
  rintro e w2 ⟨rfl, hb⟩
  have HB := Lib.hid hb
  have HP := H.out.below hb
  have cc := HP.floor_ hc
  have ff := HP.free (41 + c)
  have HN : Hid (∀ n, ProgP fr ((w2.drewN n).setCell ⟨b, 41 + c, none⟩ (.int .u8 (v % 8))) b (floorT t c (v % 8))) := Lib.hid fun n => ProgP.setFloor (w := w2.drewN n) ⟨HP.1, HP.2⟩ hc HR.out.1 HR.out.2
  have HO : Hid (∀ n, Only (fun i => i = b) w ((w2.drewN n).setCell ⟨b, 41 + c, none⟩ (.int .u8 (v % 8)))) := Lib.hid fun n => Only.setCell ((Only.of_below (fun i => i = b) HB.out).drewN n) (p := ⟨b, 41 + c, none⟩) (.inl rfl) _
  clear hb HP
  go_wp2_with fail
  go_region_with (go_at_call 117; refine (field_any _ _ _ HV.out _).mono ?_; rintro e w' ⟨rfl, q, rfl⟩; rw [HL.out]; have e8 := H8.out; have f8 : (w2.drew.drewN q).frozen? ⟨b, 41 + c, none⟩ = false := ff; have g8 : (w2.drew.drewN q).cell? ⟨b, 41 + c, none⟩ = some (.int .u8 (t.floor c)) := cc)
  go_wp2
  go_ret
  exact ⟨rfl, HO.out _, HN.out _⟩
theorem write_done (w : World) (b : Nat) (t : PS) (h : ProgP fr w b t) (ht : Tab w) (c : Nat) (hc : c < 2) (off v : Int) (hf : findQ off = (4, (c : Int), true)) (hv : In64 v) : Calls Tryz.prog 81 #[.pointer (some ⟨b, 4, none⟩), .int .u64 off, .int .i64 4, .int .u64 v] w (ProgEnd fr w b (.bool true) (doneT t c (v % 4294967296).toNat)) := by
  have HF := Lib.hid (find_is w off ht _ _ _ hf)
  have H := Lib.hid h
  have hx1 := Int.emod_nonneg v (show (4294967296 : Int) ≠ 0 by decide)
  have hx2 := Int.emod_lt_of_pos v (show (0 : Int) < 4294967296 by decide)
  obtain ⟨x, hx⟩ : ∃ x : Nat, (v % 4294967296).toNat = x := ⟨_, rfl⟩
  have hvx : IntKind.u32.wrap v = (x : Int) := by rw [IntKind.wrap_u32]; omega
  have hwx : IntKind.i64.wrap (x : Int) = x := IntWalk.i64_in _ (by omega)
  rw [hx]
  clear h ht hf hv hx hx1 hx2
  go_enter Tryz.func81, Tryz.ntmps81
  go_wp2_with fail
  (with_reducible refine (HF.out).mono ?_)
  rintro e w2 ⟨rfl, hb⟩
  have HB := Lib.hid hb
  have HP := Lib.hid (H.out.below hb)
  clear hb
  go_wp2_with fail
  (with_reducible refine (complete_any _ b t HP.out c hc x).mono ?_)
  rintro e w3 ⟨hu, ho, hp⟩
  obtain ⟨u, rfl⟩ := hu
  have HO := Lib.hid ((Only.of_below _ HB.out).trans ho)
  have HP3 := Lib.hid hp
  clear ho hp
  go_wp2
  go_ret
  exact ⟨rfl, HO.out, HP3.out⟩
theorem write_any (w : World) (b : Nat) (t : PS) (h : ProgP fr w b t) (ht : Tab w) (off n v : Int) (ho : In64 off) (hv : In64 v) :
    Calls Tryz.prog 81 #[.pointer (some ⟨b, 4, none⟩), .int .u64 off, .int .i64 n, .int .u64 v] w (ProgEnd fr w b (.bool (okP (plcK off n))) (wrT t (plcK off n) v)) := by
  rcases plc_cases off n ho.1 with ⟨rfl, k, hk, hk4, hp⟩ | ⟨rfl, rfl, hp⟩ | ⟨rfl, rfl, hp⟩ | ⟨rfl, rfl, hp⟩ | ⟨rfl, rfl, hp⟩ | ⟨rfl, rfl, hp⟩ | ⟨rfl, rfl, hp⟩ | ⟨rfl, rfl, hp⟩ | ⟨rfl, hn, hp⟩ | ⟨hn, hp⟩
  all_goals rw [hp]
  · by_cases k0 : k = 0
    · subst k0
      obtain rfl : off = 0 := by omega
      exact write_prio0 w b t h ht v
    · rw [show wrT t (0, k) v = prioT t k (v % 8) from if_neg k0]
      exact write_prio w b t h ht k (by omega) hk off v hk4 hv
  · exact write_pend w b t h ht v
  · exact write_on w b t h ht 0 (by omega) _ v (by decide) hv
  · exact write_on w b t h ht 1 (by omega) _ v (by decide) hv
  · exact write_floor w b t h ht 0 (by omega) _ v (by decide) hv
  · exact write_floor w b t h ht 1 (by omega) _ v (by decide) hv
  · exact write_done w b t h ht 0 (by omega) _ v (by decide) hv
  · exact write_done w b t h ht 1 (by omega) _ v (by decide) hv
  · exact write_no w b t h ht off v hn ho
  · exact write_len w b t h off n v hn

end Go.Proofs.YtgiehenaicpiaaaGreatDoor.P5.In

namespace Go.Proofs.YtgiehenaicpiaaaGreatDoor.P5
open Go.ChangeShapes Go.WideShapes Go.ChangeAt Go.RowKit
set_option linter.unusedVariables false
set_option maxRecDepth 100000

/-- The one listed variable. -/
abbrev laidT : List (String × DataW Unit) := [("mezzanine/plic.groups", Rows.laid_mezzanine_plic_groups)]
theorem gGroups : Tryz.prog.globalNamed "mezzanine/plic.groups" = some 0 := by kernel_rfl
theorem tGroups : (Tryz.prog.globals[0]?).map (·.type) = some 181 := by kernel_rfl
theorem door_met (os : Os) (args : Array Value) : laidMetH Tryz.prog laidT ((World.doorLaid Tryz.prog 400 os).forCall (fun _ _ => 0) ⟨#[], args, []⟩).memory :=
  laidMetH_of_parts3 (fuel := 8) (laidMet_of_run' 8 (by kernel_rfl) (by kernel_rfl)) (by kernel_rfl) (by kernel_rfl)

section
variable {H : Type} {enc : TypeId × Value → H} {w : World} {base : Nat} {spare : Nat → Bool} {held : Bool}
/-- A row of the table, read as its four numbers, has these cells. -/
theorem group_cells {n : Nat} {cs : List Value} {x : DataW H × List MemPlace} {a b c d : Int}
    (h : DataW.trod enc Tryz.prog w base spare held n 180 cs = some x) (hx : x.1 = .agg [.lit (.int .i64 a), .lit (.int .u64 b), .lit (.int .u64 c), .lit (.int .u64 d)]) :
    cs = [.int .i64 a, .int .u64 b, .int .u64 c, .int .u64 d] := by
  obtain ⟨xs, m, _, rfl, hl, hlen, hf⟩ := DataW.trod_struct Tryz.underlying180 h
  have hC : Tryz.prog.cellsOf 180 = 4 := by kernel_rfl
  rw [hC] at hl
  match cs, hl with
  | [v0, v1, v2, v3], _ =>
    have t0 := hf 0 _ rfl
    have t1 := hf 1 _ rfl
    have t2 := hf 2 _ rfl
    have t3 := hf 3 _ rfl
    match xs, hlen with
    | [x0, x1, x2, x3], _ =>
      obtain ⟨n0, e0, y0, _⟩ := DataW.trod_int Tryz.underlying161 (show DataW.trod enc Tryz.prog w base spare held m 161 [v0] = some x0 from t0)
      obtain ⟨n1, e1, y1, _⟩ := DataW.trod_int Tryz.underlying26 (show DataW.trod enc Tryz.prog w base spare held m 26 [v1] = some x1 from t1)
      obtain ⟨n2, e2, y2, _⟩ := DataW.trod_int Tryz.underlying26 (show DataW.trod enc Tryz.prog w base spare held m 26 [v2] = some x2 from t2)
      obtain ⟨n3, e3, y3, _⟩ := DataW.trod_int Tryz.underlying26 (show DataW.trod enc Tryz.prog w base spare held m 26 [v3] = some x3 from t3)
      simp at e0 e1 e2 e3
      subst e0 e1 e2 e3 y0 y1 y2 y3
      simp at hx
      obtain ⟨rfl, rfl, rfl, rfl⟩ := hx
      rfl
end
theorem list20 {l a b c d e : List Value} (hl : l.length = 20) (h0 : l.take 4 = a) (h1 : (l.drop 4).take 4 = b) (h2 : (l.drop 8).take 4 = c) (h3 : (l.drop 12).take 4 = d) (h4 : (l.drop 16).take 4 = e) : l = a ++ b ++ c ++ d ++ e := by
  subst h0 h1 h2 h3 h4
  match l, hl with
  | [_, _, _, _, _, _, _, _, _, _, _, _, _, _, _, _, _, _, _, _], _ => rfl
/-- What the condition gives. -/
theorem tab_of_laid {W : World} (h : laidMetH Tryz.prog laidT W) : Tab W := by
  rw [MakeChecks.laidMetH_plain _ _ _ (by kernel_rfl)] at h
  obtain ⟨ps, ⟨g0, t0, cs0, f0, p0, q0, hg0, ht0, hv0, hd0, _⟩, _, _⟩ := h
  obtain rfl := Option.some.inj (gGroups.symm.trans hg0)
  obtain rfl := Option.some.inj (tGroups.symm.trans ht0)
  obtain ⟨xs, m, _, hx, hl, hn, hel⟩ := DataW.trod_array Tryz.underlying181 hd0
  have c68 : Tryz.prog.cellsOf 180 = 4 := by kernel_rfl
  have c69 : Tryz.prog.cellsOf 181 = 20 := by kernel_rfl
  rw [c69] at hl
  rw [c68] at hel
  simp only [Prod.mk.injEq] at hx
  match xs, hn with
  | [x0, x1, x2, x3, x4], _ =>
    have hx1 := hx.1
    unfold Rows.laid_mezzanine_plic_groups at hx1
    simp only [List.map_cons, List.map_nil, DataW.agg.injEq, List.cons.injEq] at hx1
    obtain ⟨e0, e1, e2, e3, e4, _⟩ := hx1
    have k0 := group_cells (hel 0 (by decide)) e0.symm
    have k1 := group_cells (hel 1 (by decide)) e1.symm
    have k2 := group_cells (hel 2 (by decide)) e2.symm
    have k3 := group_cells (hel 3 (by decide)) e3.symm
    have k4 := group_cells (hel 4 (by decide)) e4.symm
    have hcs := list20 hl k0 k1 k2 k3 k4
    simp only [World.var?, gGroups, Option.bind_some] at hv0
    split at hv0
    · rename_i c t fr hb
      have hc := Option.some.inj hv0
      have hq : cs0 = tabQ := Array.ext' (by rw [hcs]; rfl)
      exact ⟨t, fr, by rw [hb, hc, hq]⟩
    · cases hv0

end Go.Proofs.YtgiehenaicpiaaaGreatDoor.P5
