/- Layer 6: the document's uart: Read. -/
import Derived.Test.YtcbjfkbmbjmnbaaDoorUn
namespace Go.Proofs.YtcbjfkbmbjmnbaaDoor
open Go.RowKit
set_option linter.unusedVariables false

/-- Bytes that stand anywhere poured onto nothing. -/
theorem run_pour0 (w : World) (g off c : Nat) (xs : List Int) (hb : Byt xs) (hl : xs.length ≤ 70000) (hc : ∀ j, j < xs.length → w.cell? ⟨g, off + j, none⟩ = some (.int .u8 (xs.getD j 0))) (ty : TypeId) :
    ∃ v' w', (Builtin.append_ #[28, 28] ty #[.slice none 0 0, .slice (some ⟨g, off, none⟩) xs.length c]).run Tryd.prog w = .ok v' w' ∧ RowB w' v' xs ∧ Only (fun _ => False) w w' ∧ (∀ g, v'.ownBlock = some g → w.heap.size ≤ g) := by
  obtain ⟨i0, hi, hz0, hz1, hz2⟩ := info_parts8 info_u8
  obtain ⟨v', w', hr, h2, h3, _, h5⟩ := run_append_own_at (P := Tryd.prog) w 0 28 ty 5 i0 (.int .u8 0) 1 1 Tryd.underlying28 hi hz0 hz1 hz2 rfl (by decide) (.slice none 0 0) 0 [] (World.ownsRow_nil _ _ _ _) ⟨g, off, none⟩ xs.length c (u8s xs) (by rw [u8s_len]; omega) (fun j u hj => by
      obtain ⟨hj2, rfl⟩ := u8s_get hj
      rw [add_none]; exact hc j hj2) (u8s_one xs) (by unfold maxLen; omega) (by omega) (Nat.zero_le _)
  have e1 : 0 + xs.length = xs.length := by omega
  rw [e1, List.nil_append] at h2
  refine ⟨v', w', hr, ⟨hb, .inl h2⟩, (Only.refl _ w).grown h3 (fun k hk => by cases hk), fun g' hg' => ?_⟩
  rcases h5 with h5 | h5
  · rw [h5] at hg'; cases hg'
  · rw [h5] at hg'; injection hg' with hg'; omega
theorem run_rest (w : World) (g off n c : Nat) (h1 : 1 ≤ n) (hc : n ≤ c) : (Instr.slice 28 (.slice (some ⟨g, off, none⟩) n c) (some (.int .i64 1)) none none).run Tryd.prog w = .ok (.slice (some ⟨g, (if c = 1 then off else off + 1), none⟩) (n - 1) (c - 1)) w := by
  rw [run_slice_l (t := 28) w (some ⟨g, off, none⟩) n c ?_ .i64 1 (by decide) (by omega)]
  · have hs : (sizeOf (Tryd.prog.elem 28)).run Tryd.prog w = .ok 1 w := by kernel_rfl
    rw [hs]
    by_cases h : c = 1
    · subst h; simp [sliced]
    · simp [sliced, Addr.add, h]
  · kernel_rfl
theorem plK_inv {t : US} {off n : Int} {k : Nat} (h : plK t off n = k) (hk : k < 8) : n = 1 ∧ off = k ∧ (k < 2 → t.lcr < 128) := by
  unfold plK at h
  by_cases h1 : n = 1 ∧ 0 ≤ off ∧ off < 8
  · rw [if_pos h1] at h
    by_cases h2 : off < 2 ∧ 128 ≤ t.lcr
    · rw [if_pos h2] at h; omega
    · rw [if_neg h2] at h
      exact ⟨h1.1, by omega, by omega⟩
  · rw [if_neg h1] at h; omega
theorem plK_inv2 {t : US} {off n : Int} {k : Nat} (h : plK t off n = k) (hk : 8 ≤ k) (hk2 : k < 10) : n = 1 ∧ off = k - 8 ∧ 128 ≤ t.lcr := by
  unfold plK at h
  by_cases h1 : n = 1 ∧ 0 ≤ off ∧ off < 8
  · rw [if_pos h1] at h
    by_cases h2 : off < 2 ∧ 128 ≤ t.lcr
    · rw [if_pos h2] at h; exact ⟨h1.1, by omega, h2.2⟩
    · rw [if_neg h2] at h; omega
  · rw [if_neg h1] at h; omega
theorem plK_ten {t : US} {off n : Int} (h : plK t off n = 10) (h0 : 0 ≤ off) : ¬ n = 1 ∨ 8 ≤ off := by
  unfold plK at h
  by_cases h1 : n = 1 ∧ 0 ≤ off ∧ off < 8
  · rw [if_pos h1] at h; split at h <;> omega
  · omega

set_option maxRecDepth 100000 in
set_option maxHeartbeats 4000000 in
theorem refRead_0 (w : World) (b : Nat) (F : Nat → Prop) (t : US) (vi vo : Value) (h : HR w b F t vi vo) (off n : Int) (hk : plK t off n = 0) :
    Calls Tryd.prog 35 #[.pointer (some ⟨b, 0, none⟩), .int .u64 off, .int .i64 n] w (TellR w b F (.tuple #[.int .u64 (rdX t 0), .bool true]) (rdT t 0)) := by
  obtain ⟨rfl, rfl, hL⟩ := plK_inv hk (by decide)
  have hL := hL (by decide)
  change Calls _ _ #[_, .int .u64 0, _] _ _
  clear hk
  have hlen := h.ok.li
  have c4 := h.cell 4 (v := .int .u8 t.lcr) rfl
  obtain ⟨a, c, rfl, hnc, hcm, hr⟩ := h.ri.reads (by omega)
  have c0 := h.cell 0 (v := .slice a t.inn.length c) rfl
  have f0 := h.free 0
  obtain ⟨inn, out, ier, fcr, lcr, mcr, scr, dl, dm, lost, sent⟩ := t
  simp only at hlen hr c0 c4 hnc hL
  cases inn with
  | nil =>
    have H := Lib.hid h
    clear h hr
    go_enter Tryd.func35, Tryd.ntmps35
    go_wp2
    go_ret2
    exact ⟨rfl, EndU.refl H.out⟩
  | cons x xs =>
    rcases hr with ⟨_, _, h0⟩ | ⟨g, o1, rfl, hg, hc⟩
    · cases h0
    have cx : w.cell? ⟨g, o1, none⟩ = some (.int .u8 x) := by have := hc 0 (by simp); simpa using this
    have hbx : 0 ≤ x ∧ x < 256 := h.ri.byt x (by simp)
    obtain ⟨x0, x1⟩ := hbx
    have hl2 : xs.length ≤ 15 := by simp at hlen; omega
    have hcr : ∀ j, j < xs.length → w.cell? ⟨g, (if c = 1 then o1 else o1 + 1) + j, none⟩ = some (.int .u8 (xs.getD j 0)) := fun j hj => by
      rw [if_neg (by simp at hnc; omega)]
      have := hc (j + 1) (by simp; omega)
      rw [show o1 + 1 + j = o1 + (j + 1) by omega, this]; simp
    obtain ⟨v', w', hrun, hR, hO, hv⟩ := run_pour0 w g (if c = 1 then o1 else o1 + 1) (c - 1) xs (h.ri.byt.tail) (by omega) hcr 28
    have hcut := fun wr => run_rest wr g o1 (xs.length + 1) c (by omega) (by simpa using hnc)
    rw [show xs.length + 1 - 1 = xs.length by omega] at hcut
    generalize (if c = 1 then o1 else o1 + 1) = o2 at *
    generalize c - 1 = c9 at *
    obtain ⟨a2, c2, hv2, _, _, _⟩ := hR.reads (by omega)
    subst hv2
    have OK : (⟨xs, out, ier, fcr, lcr, mcr, scr, dl, dm, lost, sent⟩ : US).ok := ⟨by show xs.length ≤ 16; omega, h.ok.lo, h.ok.ier, h.ok.fcr, h.ok.lcr, h.ok.mcr, h.ok.scr, h.ok.dl, h.ok.dm⟩
    have E1 : EndU cellsR 42 w b F ⟨xs, out, ier, fcr, lcr, mcr, scr, dl, dm, lost, sent⟩ (w'.setCell ⟨b, 0, none⟩ (.slice a2 xs.length c2)) :=
      EndU.turnIn h (hO.mono fun i hi => hi.elim) hR (fun g hg => .inr (hv g hg)) rfl OK rfl
    have f0' : w'.frozen? ⟨b, 0, none⟩ = false := (World.frozen?_of_block (hO.block b h.blt id)).trans f0
    have d0' : ∃ v, w'.cell? ⟨b, 0, none⟩ = some v := ⟨_, (World.cell?_of_block (hO.block b h.blt id)).trans c0⟩
    obtain ⟨v1, d0'⟩ := d0'
    have HE := Lib.hid E1
    have HRUN := Lib.hid hrun
    rw [show (x :: xs).length = xs.length + 1 from rfl] at c0
    clear h hc hcr hO hR hv E1 hrun OK hnc hlen
    generalize xs.length = m at *
    go_enter Tryd.func35, Tryd.ntmps35
    go_wp2_with ((at_builtin; refine wpList_append_run rfl _ _ _ rfl (.slice none 0 0) (.slice (some ⟨g, o2, none⟩) m c9) (.slice a2 m c2) w' rfl rfl HRUN.out ?_))
    go_ret2
    exact ⟨rfl, HE.out⟩

set_option maxRecDepth 100000 in
set_option maxHeartbeats 4000000 in
theorem refRead_1 (w : World) (b : Nat) (F : Nat → Prop) (t : US) (vi vo : Value) (h : HR w b F t vi vo) (off n : Int) (hk : plK t off n = 1) :
    Calls Tryd.prog 35 #[.pointer (some ⟨b, 0, none⟩), .int .u64 off, .int .i64 n] w (TellR w b F (.tuple #[.int .u64 (rdX t 1), .bool true]) (rdT t 1)) := by
  obtain ⟨rfl, rfl, hL⟩ := plK_inv hk (by decide)
  have hL := hL (by decide)
  change Calls _ _ #[_, .int .u64 1, _] _ _
  clear hk
  obtain ⟨c0, c1, c2, c3, c4, c5, c6, c7, c8, c9, c10⟩ := h.rcells
  have H := Lib.hid h
  have hb := h.ok.ier
  obtain ⟨x0, x1⟩ := hb
  change Calls _ _ _ _ (TellR w b F (.tuple #[.int .u64 t.ier, .bool true]) t)
  clear h
  generalize t.ier = X at *
  generalize t.lcr = L at *
  go_enter Tryd.func35, Tryd.ntmps35
  go_wp2
  go_ret2
  exact ⟨rfl, EndU.refl H.out⟩

set_option maxRecDepth 100000 in
set_option maxHeartbeats 4000000 in
theorem refRead_2 (w : World) (b : Nat) (F : Nat → Prop) (t : US) (vi vo : Value) (h : HR w b F t vi vo) (off n : Int) (hk : plK t off n = 2) :
    Calls Tryd.prog 35 #[.pointer (some ⟨b, 0, none⟩), .int .u64 off, .int .i64 n] w (TellR w b F (.tuple #[.int .u64 (rdX t 2), .bool true]) (rdT t 2)) := by
  obtain ⟨rfl, rfl, hL⟩ := plK_inv hk (by decide)
  clear hL
  change Calls _ _ #[_, .int .u64 2, _] _ _
  clear hk
  have f10 := h.free 10
  have c4 := h.cell 4 (v := .int .u8 t.lcr) rfl
  have c10 := h.cell 10 (v := .bool t.sent) rfl
  have c3 := h.cell 3 (v := .int .u8 t.fcr) rfl
  have H := Lib.hid h
  have E2 := Lib.hid (EndU.set h 10 (.bool false) (t' := { t with sent := false }) rfl rfl (ok_sent h.ok false) rfl)
  clear h
  rcases rsn_vals t with hr | hr | hr
  all_goals
    by_cases hf : t.fcr = 1
    all_goals
      first | rw [rdX2 hr hf] | rw [rdX2' hr hf]
      first | rw [rdT2 hr] | rw [rdT2' (by omega)]
      have HRS := Lib.hid (refReason_any w b F t vi vo H.out)
      rw [hr] at HRS
      have hf1 : (t.fcr == 1) = decide (t.fcr = 1) := rfl
      first | rw [decide_eq_true hf] at hf1 | rw [decide_eq_false hf] at hf1
      clear hf hr
      generalize t.fcr = fc at *
      generalize t.lcr = L at *
      go_enter Tryd.func35, Tryd.ntmps35
      go_wp2_with (go_at_call 37; refine (HRS.out).mono ?_; rintro e w' ⟨rfl, rfl⟩)
      go_ret2
      first
        | exact ⟨rfl, E2.out⟩
        | exact ⟨rfl, EndU.refl H.out⟩

set_option maxRecDepth 100000 in
set_option maxHeartbeats 4000000 in
theorem refRead_3 (w : World) (b : Nat) (F : Nat → Prop) (t : US) (vi vo : Value) (h : HR w b F t vi vo) (off n : Int) (hk : plK t off n = 3) :
    Calls Tryd.prog 35 #[.pointer (some ⟨b, 0, none⟩), .int .u64 off, .int .i64 n] w (TellR w b F (.tuple #[.int .u64 (rdX t 3), .bool true]) (rdT t 3)) := by
  obtain ⟨rfl, rfl, hL⟩ := plK_inv hk (by decide)
  clear hL
  change Calls _ _ #[_, .int .u64 3, _] _ _
  clear hk
  obtain ⟨c0, c1, c2, c3, c4, c5, c6, c7, c8, c9, c10⟩ := h.rcells
  have H := Lib.hid h
  have hb := h.ok.lcr
  obtain ⟨x0, x1⟩ := hb
  change Calls _ _ _ _ (TellR w b F (.tuple #[.int .u64 t.lcr, .bool true]) t)
  clear h
  go_enter Tryd.func35, Tryd.ntmps35
  go_wp2
  go_ret2
  exact ⟨rfl, EndU.refl H.out⟩

set_option maxRecDepth 100000 in
set_option maxHeartbeats 4000000 in
theorem refRead_4 (w : World) (b : Nat) (F : Nat → Prop) (t : US) (vi vo : Value) (h : HR w b F t vi vo) (off n : Int) (hk : plK t off n = 4) :
    Calls Tryd.prog 35 #[.pointer (some ⟨b, 0, none⟩), .int .u64 off, .int .i64 n] w (TellR w b F (.tuple #[.int .u64 (rdX t 4), .bool true]) (rdT t 4)) := by
  obtain ⟨rfl, rfl, hL⟩ := plK_inv hk (by decide)
  clear hL
  change Calls _ _ #[_, .int .u64 4, _] _ _
  clear hk
  obtain ⟨c0, c1, c2, c3, c4, c5, c6, c7, c8, c9, c10⟩ := h.rcells
  have H := Lib.hid h
  have hb := h.ok.mcr
  obtain ⟨x0, x1⟩ := hb
  change Calls _ _ _ _ (TellR w b F (.tuple #[.int .u64 t.mcr, .bool true]) t)
  clear h
  generalize t.mcr = X at *
  generalize t.lcr = L at *
  go_enter Tryd.func35, Tryd.ntmps35
  go_wp2
  go_ret2
  exact ⟨rfl, EndU.refl H.out⟩

set_option maxRecDepth 100000 in
set_option maxHeartbeats 4000000 in
theorem refRead_5 (w : World) (b : Nat) (F : Nat → Prop) (t : US) (vi vo : Value) (h : HR w b F t vi vo) (off n : Int) (hk : plK t off n = 5) :
    Calls Tryd.prog 35 #[.pointer (some ⟨b, 0, none⟩), .int .u64 off, .int .i64 n] w (TellR w b F (.tuple #[.int .u64 (rdX t 5), .bool true]) (rdT t 5)) := by
  obtain ⟨rfl, rfl, hL⟩ := plK_inv hk (by decide)
  clear hL
  change Calls _ _ #[_, .int .u64 5, _] _ _
  clear hk
  have hli := h.ok.li
  obtain ⟨a, c, hvi, hnc, hcm, hr⟩ := h.ri.reads (by omega)
  subst hvi
  have f9 := h.free 9
  have c0 := h.cell 0 (v := .slice a t.inn.length c) rfl
  have c4 := h.cell 4 (v := .int .u8 t.lcr) rfl
  have c9 := h.cell 9 (v := .bool t.lost) rfl
  have E2 : Hid (EndU cellsR 42 w b F (rdT t 5) (w.setCell ⟨b, 9, none⟩ (.bool false))) := Lib.hid (EndU.set h 9 (.bool false) (t' := { t with lost := false }) rfl rfl (ok_lost h.ok false) rfl)
  have HX := Lib.hid (rdX5 t t.inn.length rfl)
  clear h hr hli hnc hcm
  generalize rdX t 5 = X at *
  generalize rdT t 5 = T at *
  generalize t.inn.length = m at *
  generalize t.lost = l at *
  generalize t.lcr = L at *
  by_cases hn : 0 < m
  · cases l
    all_goals
      go_enter Tryd.func35, Tryd.ntmps35
      go_wp2
      go_ret2
      exact ⟨by rw [HX.out, if_pos hn]; rfl, E2.out⟩
  · obtain rfl : m = 0 := by omega
    cases l
    all_goals
      go_enter Tryd.func35, Tryd.ntmps35
      go_wp2
      go_ret2
      exact ⟨by rw [HX.out, if_neg hn]; rfl, E2.out⟩

set_option maxRecDepth 100000 in
set_option maxHeartbeats 4000000 in
theorem refRead_6 (w : World) (b : Nat) (F : Nat → Prop) (t : US) (vi vo : Value) (h : HR w b F t vi vo) (off n : Int) (hk : plK t off n = 6) :
    Calls Tryd.prog 35 #[.pointer (some ⟨b, 0, none⟩), .int .u64 off, .int .i64 n] w (TellR w b F (.tuple #[.int .u64 (rdX t 6), .bool true]) (rdT t 6)) := by
  obtain ⟨rfl, rfl, hL⟩ := plK_inv hk (by decide)
  clear hL
  change Calls _ _ #[_, .int .u64 6, _] _ _
  clear hk
  obtain ⟨c0, c1, c2, c3, c4, c5, c6, c7, c8, c9, c10⟩ := h.rcells
  have H := Lib.hid h
  change Calls _ _ _ _ (TellR w b F (.tuple #[.int .u64 176, .bool true]) t)
  clear h
  go_enter Tryd.func35, Tryd.ntmps35
  go_wp2
  go_ret2
  exact ⟨rfl, EndU.refl H.out⟩

set_option maxRecDepth 100000 in
set_option maxHeartbeats 4000000 in
theorem refRead_7 (w : World) (b : Nat) (F : Nat → Prop) (t : US) (vi vo : Value) (h : HR w b F t vi vo) (off n : Int) (hk : plK t off n = 7) :
    Calls Tryd.prog 35 #[.pointer (some ⟨b, 0, none⟩), .int .u64 off, .int .i64 n] w (TellR w b F (.tuple #[.int .u64 (rdX t 7), .bool true]) (rdT t 7)) := by
  obtain ⟨rfl, rfl, hL⟩ := plK_inv hk (by decide)
  clear hL
  change Calls _ _ #[_, .int .u64 7, _] _ _
  clear hk
  obtain ⟨c0, c1, c2, c3, c4, c5, c6, c7, c8, c9, c10⟩ := h.rcells
  have H := Lib.hid h
  have hb := h.ok.scr
  obtain ⟨x0, x1⟩ := hb
  change Calls _ _ _ _ (TellR w b F (.tuple #[.int .u64 t.scr, .bool true]) t)
  clear h
  generalize t.scr = X at *
  generalize t.lcr = L at *
  go_enter Tryd.func35, Tryd.ntmps35
  go_wp2
  go_ret2
  exact ⟨rfl, EndU.refl H.out⟩

set_option maxRecDepth 100000 in
set_option maxHeartbeats 4000000 in
theorem refRead_8 (w : World) (b : Nat) (F : Nat → Prop) (t : US) (vi vo : Value) (h : HR w b F t vi vo) (off n : Int) (hk : plK t off n = 8) :
    Calls Tryd.prog 35 #[.pointer (some ⟨b, 0, none⟩), .int .u64 off, .int .i64 n] w (TellR w b F (.tuple #[.int .u64 (rdX t 8), .bool true]) (rdT t 8)) := by
  obtain ⟨rfl, rfl, hL⟩ := plK_inv2 hk (by decide) (by decide)
  change Calls _ _ #[_, .int .u64 0, _] _ _
  clear hk
  obtain ⟨c0, c1, c2, c3, c4, c5, c6, c7, c8, c9, c10⟩ := h.rcells
  have H := Lib.hid h
  have hb := h.ok.dl
  obtain ⟨x0, x1⟩ := hb
  change Calls _ _ _ _ (TellR w b F (.tuple #[.int .u64 t.dl, .bool true]) t)
  clear h
  generalize t.dl = X at *
  generalize t.lcr = L at *
  go_enter Tryd.func35, Tryd.ntmps35
  go_wp2
  go_ret2
  exact ⟨rfl, EndU.refl H.out⟩

set_option maxRecDepth 100000 in
set_option maxHeartbeats 4000000 in
theorem refRead_9 (w : World) (b : Nat) (F : Nat → Prop) (t : US) (vi vo : Value) (h : HR w b F t vi vo) (off n : Int) (hk : plK t off n = 9) :
    Calls Tryd.prog 35 #[.pointer (some ⟨b, 0, none⟩), .int .u64 off, .int .i64 n] w (TellR w b F (.tuple #[.int .u64 (rdX t 9), .bool true]) (rdT t 9)) := by
  obtain ⟨rfl, rfl, hL⟩ := plK_inv2 hk (by decide) (by decide)
  change Calls _ _ #[_, .int .u64 1, _] _ _
  clear hk
  obtain ⟨c0, c1, c2, c3, c4, c5, c6, c7, c8, c9, c10⟩ := h.rcells
  have H := Lib.hid h
  have hb := h.ok.dm
  obtain ⟨x0, x1⟩ := hb
  change Calls _ _ _ _ (TellR w b F (.tuple #[.int .u64 t.dm, .bool true]) t)
  clear h
  generalize t.dm = X at *
  generalize t.lcr = L at *
  go_enter Tryd.func35, Tryd.ntmps35
  go_wp2
  go_ret2
  exact ⟨rfl, EndU.refl H.out⟩

theorem refRead_out (w : World) (b : Nat) (F : Nat → Prop) (t : US) (vi vo : Value) (h : HR w b F t vi vo) (off n : Int) (ho : In64 off) (hk : plK t off n = 10) :
    Calls Tryd.prog 35 #[.pointer (some ⟨b, 0, none⟩), .int .u64 off, .int .i64 n] w (TellR w b F (.tuple #[.int .u64 0, .bool false]) t) := by
  have h0 := ho.1
  have H := Lib.hid h
  have hq := plK_ten hk h0
  clear h ho hk
  by_cases hn : n = 1
  · subst hn
    have h8 : 8 ≤ off := hq.resolve_left (fun h => h rfl)
    have h7 : (7 : Int) < off := by omega
    clear hq
    go_enter Tryd.func35, Tryd.ntmps35
    go_wp2
    go_ret2
    exact ⟨rfl, EndU.refl H.out⟩
  · have hb : (n == 1) = false := by simpa using hn
    have hb2 : (n != 1) = true := by simpa [bne] using hn
    clear hn hq
    go_enter Tryd.func35, Tryd.ntmps35
    go_wp2
    go_ret2
    exact ⟨rfl, EndU.refl H.out⟩
theorem refRead_any (w : World) (b : Nat) (F : Nat → Prop) (t : US) (h : UR w b F t) (off n : Int) (ho : In64 off) :
    Calls Tryd.prog 35 #[.pointer (some ⟨b, 0, none⟩), .int .u64 off, .int .i64 n] w (TellR w b F (.tuple #[.int .u64 (rdX t (plK t off n)), .bool (okK (plK t off n))]) (rdT t (plK t off n))) := by
  obtain ⟨vi, vo, h⟩ := h
  rcases ten (plK_le t off n) with hk | hk | hk | hk | hk | hk | hk | hk | hk | hk | hk
  · rw [hk]; exact refRead_0 w b F t vi vo h off n hk
  · rw [hk]; exact refRead_1 w b F t vi vo h off n hk
  · rw [hk]; exact refRead_2 w b F t vi vo h off n hk
  · rw [hk]; exact refRead_3 w b F t vi vo h off n hk
  · rw [hk]; exact refRead_4 w b F t vi vo h off n hk
  · rw [hk]; exact refRead_5 w b F t vi vo h off n hk
  · rw [hk]; exact refRead_6 w b F t vi vo h off n hk
  · rw [hk]; exact refRead_7 w b F t vi vo h off n hk
  · rw [hk]; exact refRead_8 w b F t vi vo h off n hk
  · rw [hk]; exact refRead_9 w b F t vi vo h off n hk
  · rw [hk]; exact refRead_out w b F t vi vo h off n ho hk

end Go.Proofs.YtcbjfkbmbjmnbaaDoor
