/- Layer 6: the document's uart: New, Feed, the reason, Line. -/
import Derived.Test.YtcbjfkbmbjmnbaaDoorUi
namespace Go.Proofs.YtcbjfkbmbjmnbaaDoor
open Go.RowKit
set_option linter.unusedVariables false

section
variable {w : World} {b : Nat} {F : Nat → Prop} {t : US} {vi vo : Value}
theorem Holds.rcells (h : HR w b F t vi vo) : w.cell? ⟨b, 0, none⟩ = some vi ∧ w.cell? ⟨b, 1, none⟩ = some vo ∧ w.cell? ⟨b, 2, none⟩ = some (.int .u8 t.ier) ∧ w.cell? ⟨b, 3, none⟩ = some (.int .u8 t.fcr) ∧ w.cell? ⟨b, 4, none⟩ = some (.int .u8 t.lcr) ∧
    w.cell? ⟨b, 5, none⟩ = some (.int .u8 t.mcr) ∧ w.cell? ⟨b, 6, none⟩ = some (.int .u8 t.scr) ∧ w.cell? ⟨b, 7, none⟩ = some (.int .u8 t.dl) ∧ w.cell? ⟨b, 8, none⟩ = some (.int .u8 t.dm) ∧ w.cell? ⟨b, 9, none⟩ = some (.bool t.lost) ∧ w.cell? ⟨b, 10, none⟩ = some (.bool t.sent) :=
  ⟨h.cell 0 rfl, h.cell 1 rfl, h.cell 2 rfl, h.cell 3 rfl, h.cell 4 rfl, h.cell 5 rfl, h.cell 6 rfl, h.cell 7 rfl, h.cell 8 rfl, h.cell 9 rfl, h.cell 10 rfl⟩
end
theorem refNew_any (w : World) : Calls Tryd.prog 20 #[] w (MadeU cellsR 42 w u0) := by
  have HM := Lib.hid (made_of cellsR 42 w)
  go_enter Tryd.func20, Tryd.ntmps20
  go_wp2
  go_ret
  exact ⟨_, _, _, _, rfl, below_alloc w _, fun i hi => by omega, HM.out⟩

def TellR (w : World) (b : Nat) (F : Nat → Prop) (x : Value) (t' : US) (e : Ending) (w' : World) : Prop := e = .returned x ∧ EndU cellsR 42 w b F t' w'

set_option maxRecDepth 100000 in
set_option maxHeartbeats 2000000 in
theorem refReason_any (w : World) (b : Nat) (F : Nat → Prop) (t : US) (vi vo : Value) (h : HR w b F t vi vo) :
    Calls Tryd.prog 37 #[.pointer (some ⟨b, 0, none⟩)] w fun e w' => e = .returned (.int .u8 (rsn t)) ∧ w = w' := by
  have hlen := h.ok.li
  have hi := h.ok.ier
  obtain ⟨a, c, rfl, _, _, _⟩ := h.ri.reads (by omega)
  obtain ⟨c0, _, c2, _, _, _, _, _, _, _, c10⟩ := h.rcells
  have HR : Hid (rsn t = if t.ier % 2 = 1 ∧ 0 < t.inn.length then 4 else if t.ier / 2 % 2 = 1 ∧ t.sent = true then 2 else 1) := Lib.hid rfl
  clear h
  generalize rsn t = r at *
  generalize t.inn.length = n at *
  generalize t.sent = s at *
  generalize t.ier = x at *
  obtain ⟨x0, x1⟩ := hi
  by_cases hA : x % 2 = 1
  · have HA := Lib.hid hA
    by_cases hn : 0 < n
    · have ER : Hid (r = 4) := Lib.hid (by rw [HR.out, if_pos ⟨HA.out, hn⟩])
      clear HR
      go_enter Tryd.func37, Tryd.ntmps37
      go_wp2
      go_ret
      exact ⟨by rw [ER.out]; rfl, rfl⟩
    · obtain rfl : n = 0 := by omega
      by_cases hB : x / 2 % 2 = 1
      · have HB := Lib.hid hB
        cases s with
        | true =>
          have ER : Hid (r = 2) := Lib.hid (by rw [HR.out, if_neg (fun h => hn h.2), if_pos ⟨HB.out, rfl⟩])
          clear HR
          go_enter Tryd.func37, Tryd.ntmps37
          go_wp2
          go_ret
          exact ⟨by rw [ER.out]; rfl, rfl⟩
        | false =>
          have ER : Hid (r = 1) := Lib.hid (by rw [HR.out, if_neg (fun h => hn h.2), if_neg (fun h => by cases h.2)])
          clear HR
          go_enter Tryd.func37, Tryd.ntmps37
          go_wp2
          go_ret
          exact ⟨by rw [ER.out]; rfl, rfl⟩
      · have hb : (x / 2 % 2 == 1) = false := by simpa using hB
        have ER : Hid (r = 1) := Lib.hid (by rw [HR.out, if_neg (fun h => hn h.2), if_neg (fun h => hB h.1)])
        clear HR hB
        go_enter Tryd.func37, Tryd.ntmps37
        go_wp2
        go_ret
        exact ⟨by rw [ER.out]; rfl, rfl⟩
  · have ha : (x % 2 == 1) = false := by simpa using hA
    by_cases hB : x / 2 % 2 = 1
    · have HB := Lib.hid hB
      cases s with
      | true =>
        have ER : Hid (r = 2) := Lib.hid (by rw [HR.out, if_neg (fun h => hA h.1), if_pos ⟨HB.out, rfl⟩])
        clear HR hA
        go_enter Tryd.func37, Tryd.ntmps37
        go_wp2
        go_ret
        exact ⟨by rw [ER.out]; rfl, rfl⟩
      | false =>
        have ER : Hid (r = 1) := Lib.hid (by rw [HR.out, if_neg (fun h => hA h.1), if_neg (fun h => by cases h.2)])
        clear HR hA
        go_enter Tryd.func37, Tryd.ntmps37
        go_wp2
        go_ret
        exact ⟨by rw [ER.out]; rfl, rfl⟩
    · have hb : (x / 2 % 2 == 1) = false := by simpa using hB
      have ER : Hid (r = 1) := Lib.hid (by rw [HR.out, if_neg (fun h => hA h.1), if_neg (fun h => hB h.1)])
      clear HR hB hA
      go_enter Tryd.func37, Tryd.ntmps37
      go_wp2
      go_ret
      exact ⟨by rw [ER.out]; rfl, rfl⟩

theorem lineU_gt (t : US) : decide (1 < rsn t) = lineU t := by
  unfold lineU
  rcases rsn_vals t with h | h | h <;> rw [h] <;> rfl
theorem refLine_any (w : World) (b : Nat) (F : Nat → Prop) (t : US) (vi vo : Value) (h : HR w b F t vi vo) :
    Calls Tryd.prog 23 #[.pointer (some ⟨b, 0, none⟩)] w fun e w' => e = .returned (.bool (lineU t)) ∧ w = w' := by
  have H := Lib.hid h
  have HL := Lib.hid (lineU_gt t)
  clear h
  go_enter Tryd.func23, Tryd.ntmps23
  go_wp2_with (go_at_call 37; refine (refReason_any _ b F t vi vo H.out).mono ?_; rintro e w' ⟨rfl, rfl⟩)
  go_ret
  exact ⟨by rw [← HL.out]; rfl, rfl⟩

set_option maxRecDepth 100000 in
set_option maxHeartbeats 2000000 in
theorem refFeed_any (w : World) (b : Nat) (F : Nat → Prop) (t : US) (h : UR w b F t) (x : Int) (hx : 0 ≤ x ∧ x < 256) :
    Calls Tryd.prog 36 #[.pointer (some ⟨b, 0, none⟩), .int .u8 x] w (TellR w b F (.bool (feedK t)) (feedT t x)) := by
  obtain ⟨vi, vo, h⟩ := h
  have hli := h.ok.li
  obtain ⟨a, c, hvi, hnc, hcm, hr⟩ := h.ri.reads (by omega)
  subst hvi
  obtain ⟨c0, _⟩ := h.rcells
  have c9 := h.cell 9 (v := .bool t.lost) rfl
  have f0 := h.free 0
  have f9 := h.free 9
  have HX := Lib.hid hx
  by_cases hlt : t.inn.length < 16
  · have h2 := h.below (below_alloc w (.cells #[.int .u8 x] 5))
    obtain ⟨v', w', hrun, hR, hO, hv⟩ := run_push (w.alloc (.cells #[.int .u8 x] 5)) _ t.inn h2.ri (by omega) w.heap.size 0 x 1 (new_cell w _ _) hx 28
    obtain ⟨a2, c2, hv2, _, _, _⟩ := hR.reads (by simp; omega)
    have hl2 : (t.inn ++ [x]).length = t.inn.length + 1 := by simp
    rw [hl2] at hv2
    subst hv2
    have E1 : EndU cellsR 42 w b F { t with inn := t.inn ++ [x] } (w'.setCell ⟨b, 0, none⟩ (.slice a2 (t.inn.length + 1) c2)) := by
      have k := EndU.turnIn (t' := { t with inn := t.inn ++ [x] }) h2 hO hR hv rfl (ok_inn h.ok (by simp; omega)) rfl
      exact EndU.step (Only.of_below F (below_alloc w _)) (fun i hi => .inl hi) k
    have HE1 := Lib.hid E1
    have f0' : w'.frozen? ⟨b, 0, none⟩ = false := (World.frozen?_of_block (hO.block b (Nat.lt_of_lt_of_le h.blt (below_alloc w _).size) (fun e => (h2.fi b e).2 rfl))).trans (h2.free 0)
    have d0' : ∃ v, w'.cell? ⟨b, 0, none⟩ = some v := ⟨_, (World.cell?_of_block (hO.block b (Nat.lt_of_lt_of_le h.blt (below_alloc w _).size) (fun e => (h2.fi b e).2 rfl))).trans (h2.cell 0 rfl)⟩
    obtain ⟨v1, d0'⟩ := d0'
    have hT : feedT t x = { t with inn := t.inn ++ [x] } := by unfold feedT; rw [if_neg (by omega)]
    have hK : feedK t = true := decide_eq_true hlt
    have HRUN := Lib.hid hrun
    have hd : ((t.inn.length : Int) == 16) = false := by simp; omega
    rw [hT, hK]
    clear hT hK h h2 hR hO hv hr E1 hx hrun hli hlt
    generalize t.inn.length = n at *
    go_enter Tryd.func36, Tryd.ntmps36
    go_wp2_with ((at_builtin; refine wpList_append_run rfl _ _ _ rfl (.slice a n c) (.slice (some ⟨w.heap.size, 0, none⟩) 1 1) (.slice a2 (n + 1) c2) w' rfl rfl HRUN.out ?_))
    go_ret
    exact ⟨rfl, HE1.out⟩
  · have hd : t.inn.length = 16 := by omega
    have hT : feedT t x = { t with lost := true } := by unfold feedT; rw [if_pos (by omega)]
    have hK : feedK t = false := decide_eq_false hlt
    have OK := Lib.hid (ok_lost h.ok true)
    have H := Lib.hid h
    rw [hT, hK]
    clear hT hK h hr hlt hli hnc hcm hx
    generalize t.inn.length = n at *
    subst hd
    go_enter Tryd.func36, Tryd.ntmps36
    go_wp2
    go_ret
    exact ⟨rfl, EndU.set H.out 9 (.bool true) rfl rfl OK.out rfl⟩

end Go.Proofs.YtcbjfkbmbjmnbaaDoor
