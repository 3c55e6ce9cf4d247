/- Layer 6: the program's uart: bits of registers, the reason, the place at an offset; its table of kept bits. -/
import Derived.Test.YtcbjfkbmbjmnbaaDoorUb
import Derived.Test.YtcbjfkbmbjmnbaaDoorBits
namespace Go.Proofs.YtcbjfkbmbjmnbaaDoor
open Go.RowKit
set_option linter.unusedVariables false

theorem ret_boolU {a b : Bool} (h : a = b) : Ending.returned (.bool a) = .returned (.bool b) := by rw [h]
def tst (x i : Int) : Bool := decide (x / 2 ^ i.toNat % 2 = 1)
theorem bitP_any (x i : Int) (hi : 0 ≤ i) (h8 : i < 8) (h0 : 0 ≤ x) (h1 : x < 256) (w : World) :
    Calls Tryd.prog 29 #[.int .u8 x, .int .i64 i] w fun e w' => e = .returned (.bool (tst x i)) ∧ w = w' := by
  have H := Lib.hid h1
  have H8 := Lib.hid h8
  clear h1 h8
  go_enter Tryd.func29, Tryd.ntmps29
  go_wp2
  go_ret
  have h8 := H8.out
  exact ⟨ret_boolU (by rw [and_one_u8 (Int.ediv_nonneg h0 (Int.le_of_lt (Int.pow_pos (by omega))))]; unfold tst; rw [Nat.min_eq_left (by omega)]; rw [Bool.eq_iff_iff, beq_iff_eq, decide_eq_true_eq]), rfl⟩

def regOf (t : US) (p : Int) : Int := if p = 1 then t.ier else if p = 2 then t.fcr else t.lcr
def hasV (t : US) (p i : Int) : Bool := tst (regOf t p) i
theorem hasV_in (t : US) : hasV t 1 0 = decide (t.ier % 2 = 1) := by
  unfold hasV tst regOf; rw [if_pos rfl]; simp
theorem hasV_sent (t : US) : hasV t 1 1 = decide (t.ier / 2 % 2 = 1) := by
  unfold hasV tst regOf; rw [if_pos rfl]; rfl
theorem hasV_latch {t : US} (h : t.ok) : hasV t 3 7 = decide (128 ≤ t.lcr) := by
  have := h.lcr
  unfold hasV tst regOf
  rw [if_neg (by decide), if_neg (by decide), Bool.eq_iff_iff, decide_eq_true_eq, decide_eq_true_eq]
  show t.lcr / 128 % 2 = 1 ↔ _
  omega
theorem hasV_fifo {t : US} (h : t.ok) : hasV t 2 0 = decide (t.fcr = 1) := by
  have := h.fcr
  unfold hasV tst regOf
  rw [if_neg (by decide), if_pos rfl, Bool.eq_iff_iff, decide_eq_true_eq, decide_eq_true_eq]
  show t.fcr / 1 % 2 = 1 ↔ _
  omega

section
variable {w : World} {b : Nat} {F : Nat → Prop} {t : US} {vi vo : Value}
theorem Holds.pcells (h : HP w b F t vi vo) : w.cell? ⟨b, 0, none⟩ = some vi ∧ w.cell? ⟨b, 1, none⟩ = some vo ∧ w.cell? ⟨b, 2, none⟩ = some (.bool t.lost) ∧ w.cell? ⟨b, 3, none⟩ = some (.bool t.sent) :=
  ⟨h.cell 0 rfl, h.cell 1 rfl, h.cell 2 rfl, h.cell 3 rfl⟩
theorem Holds.pregs (h : HP w b F t vi vo) : w.cell? ⟨b, 4, none⟩ = some (.int .u8 0) ∧ w.cell? ⟨b, 5, none⟩ = some (.int .u8 t.ier) ∧ w.cell? ⟨b, 6, none⟩ = some (.int .u8 t.fcr) ∧ w.cell? ⟨b, 7, none⟩ = some (.int .u8 t.lcr) ∧
    w.cell? ⟨b, 8, none⟩ = some (.int .u8 t.mcr) ∧ w.cell? ⟨b, 9, none⟩ = some (.int .u8 0) ∧ w.cell? ⟨b, 10, none⟩ = some (.int .u8 0) ∧ w.cell? ⟨b, 11, none⟩ = some (.int .u8 t.scr) ∧ w.cell? ⟨b, 12, none⟩ = some (.int .u8 t.dl) ∧ w.cell? ⟨b, 13, none⟩ = some (.int .u8 t.dm) :=
  ⟨h.cell 4 rfl, h.cell 5 rfl, h.cell 6 rfl, h.cell 7 rfl, h.cell 8 rfl, h.cell 9 rfl, h.cell 10 rfl, h.cell 11 rfl, h.cell 12 rfl, h.cell 13 rfl⟩
end
theorem has_any (w : World) (b : Nat) (F : Nat → Prop) (t : US) (vi vo : Value) (h : HP w b F t vi vo) (p i : Int) (hp : p = 1 ∨ p = 2 ∨ p = 3) (hi : 0 ≤ i ∧ i < 8) :
    Calls Tryd.prog 28 #[.pointer (some ⟨b, 0, none⟩), .int .i64 p, .int .i64 i] w fun e w' => e = .returned (.bool (hasV t p i)) ∧ w = w' := by
  obtain ⟨hi0, hi8⟩ := hi
  obtain ⟨_, c1, c2, c3, _⟩ := h.pregs
  have e := h.ok.ier
  have f := h.ok.fcr
  have l := h.ok.lcr
  have E1 : 0 ≤ t.ier ∧ t.ier < 256 := by omega
  have E2 : 0 ≤ t.fcr ∧ t.fcr < 256 := by omega
  clear h e f
  rcases hp with rfl | rfl | rfl
  · go_enter Tryd.func28, Tryd.ntmps28
    go_wp2_with (go_at_call 29; refine (bitP_any _ _ hi0 hi8 E1.1 E1.2 _).mono ?_; rintro e w' ⟨rfl, rfl⟩)
    go_ret
    exact ⟨rfl, rfl⟩
  · go_enter Tryd.func28, Tryd.ntmps28
    go_wp2_with (go_at_call 29; refine (bitP_any _ _ hi0 hi8 E2.1 E2.2 _).mono ?_; rintro e w' ⟨rfl, rfl⟩)
    go_ret
    exact ⟨rfl, rfl⟩
  · go_enter Tryd.func28, Tryd.ntmps28
    go_wp2_with (go_at_call 29; refine (bitP_any _ _ hi0 hi8 l.1 l.2 _).mono ?_; rintro e w' ⟨rfl, rfl⟩)
    go_ret
    exact ⟨rfl, rfl⟩

theorem rsn_in {t : US} (h : t.ier % 2 = 1) (hn : 0 < t.inn.length) : rsn t = 4 := by unfold rsn; rw [if_pos ⟨h, hn⟩]
theorem rsn_snt {t : US} (h : ¬ (t.ier % 2 = 1 ∧ 0 < t.inn.length)) (h2 : t.ier / 2 % 2 = 1) (hs : t.sent = true) : rsn t = 2 := by unfold rsn; rw [if_neg h, if_pos ⟨h2, hs⟩]
theorem rsn_no {t : US} (h : ¬ (t.ier % 2 = 1 ∧ 0 < t.inn.length)) (h2 : ¬ (t.ier / 2 % 2 = 1 ∧ t.sent = true)) : rsn t = 1 := by unfold rsn; rw [if_neg h, if_neg h2]
set_option maxHeartbeats 1000000 in
theorem reason_any (w : World) (b : Nat) (F : Nat → Prop) (t : US) (vi vo : Value) (h : HP w b F t vi vo) :
    Calls Tryd.prog 25 #[.pointer (some ⟨b, 0, none⟩)] w fun e w' => e = .returned (.int .u8 (rsn t)) ∧ w = w' := by
  have H := Lib.hid h
  have hlen := h.ok.li
  obtain ⟨a, c, rfl, _, _, _⟩ := h.ri.reads (by omega)
  obtain ⟨c0, _, _, c3⟩ := h.pcells
  have h10 := hasV_in t
  have h11 := hasV_sent t
  clear h
  by_cases hA : t.ier % 2 = 1
  · by_cases hn : 0 < t.inn.length
    · have ER := Lib.hid (show rsn t = 4 from rsn_in hA hn)
      rw [decide_eq_true hA] at h10
      clear h11
      clear hA
      generalize t.inn.length = n at *
      generalize rsn t = r at *
      go_enter Tryd.func25, Tryd.ntmps25
      go_wp2_with (go_at_call 28; refine (has_any _ b F t _ vo H.out _ _ (by decide) (by decide)).mono ?_; rintro e w' ⟨rfl, rfl⟩)
      go_ret
      exact ⟨by rw [ER.out]; rfl, rfl⟩
    · by_cases hB : t.ier / 2 % 2 = 1
      · by_cases hs : t.sent = true
        · have ER := Lib.hid (show rsn t = 2 from rsn_snt (fun h => hn h.2) hB hs)
          rw [decide_eq_true hA] at h10
          rw [decide_eq_true hB] at h11
          have hn0 : t.inn.length = 0 := by omega
          clear hA
          clear hB
          generalize t.sent = s at *
          subst hs
          clear hn
          generalize t.inn.length = n at *
          subst hn0
          generalize rsn t = r at *
          go_enter Tryd.func25, Tryd.ntmps25
          go_wp2_with (go_at_call 28; refine (has_any _ b F t _ vo H.out _ _ (by decide) (by decide)).mono ?_; rintro e w' ⟨rfl, rfl⟩)
          go_ret
          exact ⟨by rw [ER.out]; rfl, rfl⟩
        · have ER := Lib.hid (show rsn t = 1 from rsn_no (fun h => hn h.2) (fun h => hs h.2))
          rw [decide_eq_true hA] at h10
          rw [decide_eq_true hB] at h11
          have hn0 : t.inn.length = 0 := by omega
          clear hA
          clear hB
          have hs2 : t.sent = false := by simpa using hs
          clear hs
          generalize t.sent = s at *
          subst hs2
          clear hn
          generalize t.inn.length = n at *
          subst hn0
          generalize rsn t = r at *
          go_enter Tryd.func25, Tryd.ntmps25
          go_wp2_with (go_at_call 28; refine (has_any _ b F t _ vo H.out _ _ (by decide) (by decide)).mono ?_; rintro e w' ⟨rfl, rfl⟩)
          go_ret
          exact ⟨by rw [ER.out]; rfl, rfl⟩
      · have ER := Lib.hid (show rsn t = 1 from rsn_no (fun h => hn h.2) (fun h => hB h.1))
        rw [decide_eq_true hA] at h10
        rw [decide_eq_false hB] at h11
        have hn0 : t.inn.length = 0 := by omega
        clear hA
        clear hB
        clear hn
        generalize t.inn.length = n at *
        subst hn0
        generalize rsn t = r at *
        go_enter Tryd.func25, Tryd.ntmps25
        go_wp2_with (go_at_call 28; refine (has_any _ b F t _ vo H.out _ _ (by decide) (by decide)).mono ?_; rintro e w' ⟨rfl, rfl⟩)
        go_ret
        exact ⟨by rw [ER.out]; rfl, rfl⟩
  · by_cases hB : t.ier / 2 % 2 = 1
    · by_cases hs : t.sent = true
      · have ER := Lib.hid (show rsn t = 2 from rsn_snt (fun h => hA h.1) hB hs)
        rw [decide_eq_false hA] at h10
        rw [decide_eq_true hB] at h11
        clear hA
        clear hB
        generalize t.sent = s at *
        subst hs
        generalize t.inn.length = n at *
        generalize rsn t = r at *
        go_enter Tryd.func25, Tryd.ntmps25
        go_wp2_with (go_at_call 28; refine (has_any _ b F t _ vo H.out _ _ (by decide) (by decide)).mono ?_; rintro e w' ⟨rfl, rfl⟩)
        go_ret
        exact ⟨by rw [ER.out]; rfl, rfl⟩
      · have ER := Lib.hid (show rsn t = 1 from rsn_no (fun h => hA h.1) (fun h => hs h.2))
        rw [decide_eq_false hA] at h10
        rw [decide_eq_true hB] at h11
        clear hA
        clear hB
        have hs2 : t.sent = false := by simpa using hs
        clear hs
        generalize t.sent = s at *
        subst hs2
        generalize t.inn.length = n at *
        generalize rsn t = r at *
        go_enter Tryd.func25, Tryd.ntmps25
        go_wp2_with (go_at_call 28; refine (has_any _ b F t _ vo H.out _ _ (by decide) (by decide)).mono ?_; rintro e w' ⟨rfl, rfl⟩)
        go_ret
        exact ⟨by rw [ER.out]; rfl, rfl⟩
    · have ER := Lib.hid (show rsn t = 1 from rsn_no (fun h => hA h.1) (fun h => hB h.1))
      rw [decide_eq_false hA] at h10
      rw [decide_eq_false hB] at h11
      clear hA
      clear hB
      generalize t.inn.length = n at *
      generalize rsn t = r at *
      go_enter Tryd.func25, Tryd.ntmps25
      go_wp2_with (go_at_call 28; refine (has_any _ b F t _ vo H.out _ _ (by decide) (by decide)).mono ?_; rintro e w' ⟨rfl, rfl⟩)
      go_ret
      exact ⟨by rw [ER.out]; rfl, rfl⟩

theorem line_any (w : World) (b : Nat) (F : Nat → Prop) (t : US) (vi vo : Value) (h : HP w b F t vi vo) :
    Calls Tryd.prog 11 #[.pointer (some ⟨b, 0, none⟩)] w fun e w' => e = .returned (.bool (lineU t)) ∧ w = w' := by
  have H := Lib.hid h
  clear h
  go_enter Tryd.func11, Tryd.ntmps11
  go_wp2_with (go_at_call 25; refine (reason_any _ b F t vi vo H.out).mono ?_; rintro e w' ⟨rfl, rfl⟩)
  go_ret
  exact ⟨ret_boolU (by unfold lineU; simp [bne]; try rfl), rfl⟩
theorem line_nil (w : World) : Calls Tryd.prog 11 #[.pointer none] w fun e w' => e = .returned (.bool false) ∧ w = w' := by
  go_enter Tryd.func11, Tryd.ntmps11
  go_wp2
  go_ret
  exact ⟨rfl, rfl⟩

/-- What find answers. -/
def FindU (w : World) (k : Nat) (e : Ending) (w' : World) : Prop := w = w' ∧ ((k < 10 ∧ e = .returned (.tuple #[.int .i64 (k : Int), .bool true])) ∨ (k = 10 ∧ e = .returned (.tuple #[.int .i64 0, .bool false])))
theorem find_nil (w : World) (off n : Int) : Calls Tryd.prog 26 #[.pointer none, .int .u64 off, .int .i64 n] w fun e w' => e = .returned (.tuple #[.int .i64 0, .bool false]) ∧ w = w' := by
  go_enter Tryd.func26, Tryd.ntmps26
  go_wp2
  go_ret2
  exact ⟨rfl, rfl⟩
theorem plK_none {t : US} {off n : Int} (h : ¬ (n = 1 ∧ 0 ≤ off ∧ off < 8)) : plK t off n = 10 := by unfold plK; rw [if_neg h]
theorem plK_off {t : US} {off : Int} (h0 : 0 ≤ off) (h8 : off < 8) (h : ¬ (off < 2 ∧ 128 ≤ t.lcr)) : plK t off 1 = off.toNat := by
  unfold plK; rw [if_pos ⟨rfl, h0, h8⟩, if_neg h]
theorem plK_over {t : US} {off : Int} (h0 : 0 ≤ off) (h2 : off < 2) (h : 128 ≤ t.lcr) : plK t off 1 = off.toNat + 8 := by
  unfold plK; rw [if_pos ⟨rfl, h0, by omega⟩, if_pos ⟨h2, h⟩]
set_option maxHeartbeats 1000000 in
theorem find_any (w : World) (b : Nat) (F : Nat → Prop) (t : US) (vi vo : Value) (h : HP w b F t vi vo) (off n : Int) (ho : In64 off) :
    Calls Tryd.prog 26 #[.pointer (some ⟨b, 0, none⟩), .int .u64 off, .int .i64 n] w (FindU w (plK t off n)) := by
  have H := Lib.hid h
  have hlat := hasV_latch h.ok
  have h0 := ho.1
  clear h ho
  by_cases hn : n = 1
  · subst hn
    by_cases h8 : off < 8
    · by_cases h2 : off < 2
      · by_cases hL : 128 ≤ t.lcr
        · have h37 : hasV t 3 7 = true := by rw [hlat]; exact decide_eq_true hL
          have HK := Lib.hid (plK_over h0 h2 hL)
          have e1 : IntKind.i64.wrap off = off := IntWalk.i64_in _ (by omega)
          clear hlat hL
          generalize plK t off 1 = k at *
          go_enter Tryd.func26, Tryd.ntmps26
          go_wp2_with (go_at_call 28; refine (has_any _ b F t _ vo H.out _ _ (by decide) (by decide)).mono ?_; rintro e w' ⟨rfl, rfl⟩)
          go_ret2
          exact ⟨rfl, .inl ⟨by rw [HK.out]; omega, by rw [HK.out, show ((off.toNat + 8 : Nat) : Int) = off + 8 by omega]; rfl⟩⟩
        · have h37 : hasV t 3 7 = false := by rw [hlat]; exact decide_eq_false hL
          have HK := Lib.hid (plK_off h0 h8 (fun h => hL h.2))
          have e1 : IntKind.i64.wrap off = off := IntWalk.i64_in _ (by omega)
          clear hlat hL
          generalize plK t off 1 = k at *
          go_enter Tryd.func26, Tryd.ntmps26
          go_wp2_with (go_at_call 28; refine (has_any _ b F t _ vo H.out _ _ (by decide) (by decide)).mono ?_; rintro e w' ⟨rfl, rfl⟩)
          go_ret2
          exact ⟨rfl, .inl ⟨by rw [HK.out]; omega, by rw [HK.out, show ((off.toNat : Nat) : Int) = off by omega]; rfl⟩⟩
      · have HK := Lib.hid (plK_off (t := t) h0 h8 (fun h => h2 h.1))
        have e1 : IntKind.i64.wrap off = off := IntWalk.i64_in _ (by omega)
        clear hlat
        generalize plK t off 1 = k at *
        go_enter Tryd.func26, Tryd.ntmps26
        go_wp2
        go_ret2
        exact ⟨rfl, .inl ⟨by rw [HK.out]; omega, by rw [HK.out, show ((off.toNat : Nat) : Int) = off by omega]; rfl⟩⟩
    · have HK := Lib.hid (plK_none (t := t) (n := 1) (show ¬ ((1 : Int) = 1 ∧ 0 ≤ off ∧ off < 8) by omega))
      clear hlat
      generalize plK t off 1 = k at *
      go_enter Tryd.func26, Tryd.ntmps26
      go_wp2
      go_ret2
      exact ⟨rfl, .inr ⟨HK.out, rfl⟩⟩
  · have HK := Lib.hid (plK_none (t := t) (off := off) (show ¬ (n = 1 ∧ 0 ≤ off ∧ off < 8) from fun h => hn h.1))
    have hb : (n == 1) = false := by simpa using hn
    have hb2 : (n != 1) = true := by simpa [bne] using hn
    clear hlat hn
    generalize plK t off n = k at *
    go_enter Tryd.func26, Tryd.ntmps26
    go_wp2
    go_ret2
    exact ⟨rfl, .inr ⟨HK.out, rfl⟩⟩

end Go.Proofs.YtcbjfkbmbjmnbaaDoor
