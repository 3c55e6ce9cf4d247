/- Layer 6: the program's uart: what is sent; reasons and the line's state are told; Feed, Waiting. -/
import Derived.Test.YtcbjfkbmbjmnbaaDoorUd
import Derived.Deep.CutRange
namespace Go.Proofs.YtcbjfkbmbjmnbaaDoor
open Go.RowKit
set_option linter.unusedVariables false

theorem new_cell (w : World) (v : Value) (ty : TypeId) : (w.alloc (.cells #[v] ty)).cell? ⟨w.heap.size, 0, none⟩ = some v := by
  rw [cell_of_row _ _ _ _ _ _ (heap_alloc_new w _)]; rfl
theorem below_alloc (w : World) (o : Obj) : Below w.heap.size w (w.alloc o) := (Below.refl _ _).alloc (Nat.le_refl _) o

def DoneU (w : World) (b : Nat) (F : Nat → Prop) (t' : US) (e : Ending) (w' : World) : Prop := (∃ u, e = .returned u) ∧ EndU cellsP 52 w b F t' w'
theorem sendT_ok {t : US} (h : t.ok) (b : Int) : (sendT t b).ok := ⟨h.li, by
    have := h.lo
    show (if t.out.length < 65536 then t.out ++ [b] else t.out).length ≤ 65536
    split
    · simp; omega
    · exact this, h.ier, h.fcr, h.lcr, h.mcr, h.scr, h.dl, h.dm⟩
set_option maxRecDepth 100000 in
set_option maxHeartbeats 2000000 in
theorem send_any (w : World) (b : Nat) (F : Nat → Prop) (t : US) (vi vo : Value) (h : HP w b F t vi vo) (x : Int) (hx : 0 ≤ x ∧ x < 256) :
    Calls Tryd.prog 27 #[.pointer (some ⟨b, 0, none⟩), .int .u8 x] w (DoneU w b F (sendT t x)) := by
  have hlo := h.ok.lo
  obtain ⟨a, c, hvo, hnc, hcm, hr⟩ := h.ro.reads (by omega)
  subst hvo
  obtain ⟨_, c1, _, _⟩ := h.pcells
  have f1 := h.free 1
  have f3 := h.free 3
  have HX := Lib.hid hx
  by_cases hlt : t.out.length < 65536
  · -- the byte is appended
    have h2 := h.below (below_alloc w (.cells #[.int .u8 x] 5))
    obtain ⟨v', w', hrun, hR, hO, hv⟩ := run_push (w.alloc (.cells #[.int .u8 x] 5)) _ t.out h2.ro (by omega) w.heap.size 0 x 1 (new_cell w _ _) hx 28
    obtain ⟨a2, c2, hv2, _, _, _⟩ := hR.reads (by simp; omega)
    have hl2 : (t.out ++ [x]).length = t.out.length + 1 := by simp
    rw [hl2] at hv2
    subst hv2
    have E1 : EndU cellsP 52 w b F { t with out := t.out ++ [x] } (w'.setCell ⟨b, 1, none⟩ (.slice a2 (t.out.length + 1) c2)) := by
      have k := EndU.turnOut (t' := { t with out := t.out ++ [x] }) h2 hO hR hv rfl ⟨h.ok.li, by simp; omega, h.ok.ier, h.ok.fcr, h.ok.lcr, h.ok.mcr, h.ok.scr, h.ok.dl, h.ok.dm⟩ rfl
      exact EndU.step (Only.of_below F (below_alloc w _)) (fun i hi => .inl hi) k
    have HE1 := Lib.hid E1
    have f1' : w'.frozen? ⟨b, 1, none⟩ = false := (World.frozen?_of_block (hO.block b (Nat.lt_of_lt_of_le h.blt (below_alloc w _).size) (fun e => (h2.fo b e).2 rfl))).trans (h2.free 1)
    have d1' : ∃ v, w'.cell? ⟨b, 1, none⟩ = some v := ⟨_, (World.cell?_of_block (hO.block b (Nat.lt_of_lt_of_le h.blt (below_alloc w _).size) (fun e => (h2.fo b e).2 rfl))).trans (h2.cell 1 rfl)⟩
    obtain ⟨v1, d1'⟩ := d1'
    have hT : sendT t x = { { t with out := t.out ++ [x] } with sent := true } := by unfold sendT; rw [if_pos hlt]
    have OK := Lib.hid (sendT_ok h.ok x)
    rw [hT] at OK ⊢
    have HRUN := Lib.hid hrun
    have HO2 := Lib.hid hO
    have hd : decide ((t.out.length : Int) < 65536) = true := by rw [decide_eq_true_eq]; omega
    clear hT h h2 hR hO hv hr E1 hx hrun hlo hlt
    generalize t.out.length = n at *
    go_enter Tryd.func27, Tryd.ntmps27
    go_upto_region 2 with ((at_builtin; refine wpList_append_run rfl _ _ _ rfl (.slice a n c) (.slice (some ⟨w.heap.size, 0, none⟩) 1 1) (.slice a2 (n + 1) c2) w' rfl rfl HRUN.out ?_))
    obtain ⟨ho, F1, hF1, vi1, vo1, h1⟩ := HE1.out
    generalize w'.setCell ⟨b, 1, none⟩ (.slice a2 (n + 1) c2) = w1 at *
    have H1 := Lib.hid h1
    have HO1 := Lib.hid ho
    have HF1 := Lib.hid hF1
    have f3b := h1.free 3
    obtain ⟨_, _, _, e3⟩ := h1.pcells
    clear h1 ho hF1 HE1 d1' f1' f1 f3 HRUN HO2 hnc hcm hd c1
    go_wp2
    go_end0
    exact ⟨⟨_, rfl⟩, EndU.step HO1.out HF1.out (EndU.set H1.out 3 (.bool true) rfl rfl OK.out rfl)⟩
  · have hd : decide ((t.out.length : Int) < 65536) = false := by rw [decide_eq_false_iff_not]; omega
    have hT : sendT t x = { t with sent := true } := by unfold sendT; rw [if_neg hlt]
    have OK := Lib.hid (sendT_ok h.ok x)
    have H := Lib.hid h
    rw [hT] at OK ⊢
    clear hT h hr hlt hlo hnc hcm hx
    generalize t.out.length = n at *
    go_enter Tryd.func27, Tryd.ntmps27
    go_wp2
    go_end0
    exact ⟨⟨_, rfl⟩, EndU.set H.out 3 (.bool true) rfl rfl OK.out rfl⟩

/-- What a call answers and leaves. -/
def TellU (w : World) (b : Nat) (F : Nat → Prop) (x : Value) (t' : US) (e : Ending) (w' : World) : Prop := e = .returned x ∧ EndU cellsP 52 w b F t' w'
theorem ok_sent {t : US} (h : t.ok) (s : Bool) : ({ t with sent := s } : US).ok := ⟨h.li, h.lo, h.ier, h.fcr, h.lcr, h.mcr, h.scr, h.dl, h.dm⟩
theorem ok_lost {t : US} (h : t.ok) (s : Bool) : ({ t with lost := s } : US).ok := ⟨h.li, h.lo, h.ier, h.fcr, h.lcr, h.mcr, h.scr, h.dl, h.dm⟩
theorem ok_inn {t : US} (h : t.ok) {l : List Int} (hl : l.length ≤ 16) : ({ t with inn := l } : US).ok := ⟨hl, h.lo, h.ier, h.fcr, h.lcr, h.mcr, h.scr, h.dl, h.dm⟩

/-! ### Feed, Waiting -/
set_option maxRecDepth 100000 in
set_option maxHeartbeats 2000000 in
theorem feed_any (w : World) (b : Nat) (F : Nat → Prop) (t : US) (vi vo : Value) (h : HP w b F t vi vo) (x : Int) (hx : 0 ≤ x ∧ x < 256) :
    Calls Tryd.prog 10 #[.pointer (some ⟨b, 0, none⟩), .int .u8 x] w (TellU w b F (.bool (feedK t)) (feedT t x)) := by
  have hli := h.ok.li
  obtain ⟨a, c, hvi, hnc, hcm, hr⟩ := h.ri.reads (by omega)
  subst hvi
  obtain ⟨c0, _, _, _⟩ := h.pcells
  have f0 := h.free 0
  have f2 := h.free 2
  have HX := Lib.hid hx
  by_cases hlt : t.inn.length < 16
  · have h2 := h.below (below_alloc w (.cells #[.int .u8 x] 5))
    obtain ⟨v', w', hrun, hR, hO, hv⟩ := run_push (w.alloc (.cells #[.int .u8 x] 5)) _ t.inn h2.ri (by omega) w.heap.size 0 x 1 (new_cell w _ _) hx 28
    obtain ⟨a2, c2, hv2, _, _, _⟩ := hR.reads (by simp; omega)
    have hl2 : (t.inn ++ [x]).length = t.inn.length + 1 := by simp
    rw [hl2] at hv2
    subst hv2
    have E1 : EndU cellsP 52 w b F { t with inn := t.inn ++ [x] } (w'.setCell ⟨b, 0, none⟩ (.slice a2 (t.inn.length + 1) c2)) := by
      have k := EndU.turnIn (t' := { t with inn := t.inn ++ [x] }) h2 hO hR hv rfl (ok_inn h.ok (by simp; omega)) rfl
      exact EndU.step (Only.of_below F (below_alloc w _)) (fun i hi => .inl hi) k
    have HE1 := Lib.hid E1
    have f0' : w'.frozen? ⟨b, 0, none⟩ = false := (World.frozen?_of_block (hO.block b (Nat.lt_of_lt_of_le h.blt (below_alloc w _).size) (fun e => (h2.fi b e).2 rfl))).trans (h2.free 0)
    have d0' : ∃ v, w'.cell? ⟨b, 0, none⟩ = some v := ⟨_, (World.cell?_of_block (hO.block b (Nat.lt_of_lt_of_le h.blt (below_alloc w _).size) (fun e => (h2.fi b e).2 rfl))).trans (h2.cell 0 rfl)⟩
    obtain ⟨v1, d0'⟩ := d0'
    have hT : feedT t x = { t with inn := t.inn ++ [x] } := by unfold feedT; rw [if_neg (by omega)]
    have hK : feedK t = true := decide_eq_true hlt
    have HRUN := Lib.hid hrun
    have hd : decide ((16 : Int) ≤ (t.inn.length : Int)) = false := by rw [decide_eq_false_iff_not]; omega
    rw [hT, hK]
    clear hT hK h h2 hR hO hv hr E1 hx hrun hli hlt
    generalize t.inn.length = n at *
    go_enter Tryd.func10, Tryd.ntmps10
    go_wp2_with ((at_builtin; refine wpList_append_run rfl _ _ _ rfl (.slice a n c) (.slice (some ⟨w.heap.size, 0, none⟩) 1 1) (.slice a2 (n + 1) c2) w' rfl rfl HRUN.out ?_))
    go_ret
    exact ⟨rfl, HE1.out⟩
  · have hd : decide ((16 : Int) ≤ (t.inn.length : Int)) = true := by rw [decide_eq_true_eq]; omega
    have hT : feedT t x = { t with lost := true } := by unfold feedT; rw [if_pos (by omega)]
    have hK : feedK t = false := decide_eq_false hlt
    have OK := Lib.hid (ok_lost h.ok true)
    have H := Lib.hid h
    rw [hT, hK]
    clear hT hK h hr hlt hli hnc hcm hx
    generalize t.inn.length = n at *
    go_enter Tryd.func10, Tryd.ntmps10
    go_wp2
    go_ret
    exact ⟨rfl, EndU.set H.out 2 (.bool true) rfl rfl OK.out rfl⟩
theorem feed_nil (w : World) (x : Int) : Calls Tryd.prog 10 #[.pointer none, .int .u8 x] w fun e w' => e = .returned (.bool false) ∧ w = w' := by
  go_enter Tryd.func10, Tryd.ntmps10
  go_wp2
  go_ret
  exact ⟨rfl, rfl⟩
theorem waiting_any (w : World) (b : Nat) (F : Nat → Prop) (t : US) (vi vo : Value) (h : HP w b F t vi vo) :
    Calls Tryd.prog 15 #[.pointer (some ⟨b, 0, none⟩)] w fun e w' => e = .returned (.int .i64 (t.inn.length : Int)) ∧ w = w' := by
  have hli := h.ok.li
  obtain ⟨a, c, hvi, hnc, hcm, hr⟩ := h.ri.reads (by omega)
  subst hvi
  obtain ⟨c0, _, _, _⟩ := h.pcells
  clear h hr hli
  generalize t.inn.length = n at *
  go_enter Tryd.func15, Tryd.ntmps15
  go_wp2
  go_ret
  exact ⟨rfl, rfl⟩
theorem waiting_nil (w : World) : Calls Tryd.prog 15 #[.pointer none] w fun e w' => e = .returned (.int .i64 0) ∧ w = w' := by
  go_enter Tryd.func15, Tryd.ntmps15
  go_wp2
  go_ret
  exact ⟨rfl, rfl⟩

end Go.Proofs.YtcbjfkbmbjmnbaaDoor
