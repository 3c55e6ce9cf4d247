/- Layer 6: the document's uart: Same. -/
import Derived.Test.YtcbjfkbmbjmnbaaDoorUp
import Derived.Test.YtcbjfkbmbjmnbaaDoorUm
namespace Go.Proofs.YtcbjfkbmbjmnbaaDoor
open Go.RowKit
set_option linter.unusedVariables false

/-- What the document's Same meets on its way: two strings of each, marks, registers. -/
structure Meets (w : World) (a b : Nat) (t u : US) (s1 s2 s3 s4 : ByteArray) (vi vo ui uo : Value) : Prop where
  e1 : ∀ n, (convert 28 9 vi).run Tryd.prog (w.drewN n) = .ok (.string s1) (w.drewN n)
  e2 : ∀ n, (convert 28 9 ui).run Tryd.prog (w.drewN n) = .ok (.string s2) (w.drewN n)
  e3 : ∀ n, (convert 28 9 vo).run Tryd.prog (w.drewN n) = .ok (.string s3) (w.drewN n)
  e4 : ∀ n, (convert 28 9 uo).run Tryd.prog (w.drewN n) = .ok (.string s4) (w.drewN n)
  a_lost : w.cell? ⟨a, 9, none⟩ = some (.bool t.lost)
  b_lost : w.cell? ⟨b, 9, none⟩ = some (.bool u.lost)
  a_sent : w.cell? ⟨a, 10, none⟩ = some (.bool t.sent)
  b_sent : w.cell? ⟨b, 10, none⟩ = some (.bool u.sent)
  a_ier : w.cell? ⟨a, 2, none⟩ = some (.int .u8 t.ier)
  b_ier : w.cell? ⟨b, 2, none⟩ = some (.int .u8 u.ier)
  a_fcr : w.cell? ⟨a, 3, none⟩ = some (.int .u8 t.fcr)
  b_fcr : w.cell? ⟨b, 3, none⟩ = some (.int .u8 u.fcr)
  a_lcr : w.cell? ⟨a, 4, none⟩ = some (.int .u8 t.lcr)
  b_lcr : w.cell? ⟨b, 4, none⟩ = some (.int .u8 u.lcr)
  a_mcr : w.cell? ⟨a, 5, none⟩ = some (.int .u8 t.mcr)
  b_mcr : w.cell? ⟨b, 5, none⟩ = some (.int .u8 u.mcr)
  a_scr : w.cell? ⟨a, 6, none⟩ = some (.int .u8 t.scr)
  b_scr : w.cell? ⟨b, 6, none⟩ = some (.int .u8 u.scr)
  a_dl : w.cell? ⟨a, 7, none⟩ = some (.int .u8 t.dl)
  b_dl : w.cell? ⟨b, 7, none⟩ = some (.int .u8 u.dl)
  a_dm : w.cell? ⟨a, 8, none⟩ = some (.int .u8 t.dm)
  b_dm : w.cell? ⟨b, 8, none⟩ = some (.int .u8 u.dm)
  a0 : w.cell? ⟨a, 0, none⟩ = some vi
  a1 : w.cell? ⟨a, 1, none⟩ = some vo
  b0 : w.cell? ⟨b, 0, none⟩ = some ui
  b1 : w.cell? ⟨b, 1, none⟩ = some uo
  c1 : (s1.toList == s2.toList) = decide (t.inn = u.inn)
  c2 : (s3.toList == s4.toList) = decide (t.out = u.out)
theorem meets {w : World} {a b : Nat} {Fa Fb : Nat → Prop} {t u : US} {vi vo ui uo : Value} (h : HR w a Fa t vi vo) (k : HR w b Fb u ui uo) : Meets w a b t u (strOfNums t.inn) (strOfNums u.inn) (strOfNums t.out) (strOfNums u.out) vi vo ui uo := by
  have h1 := h.ok.li
  have h2 := h.ok.lo
  have k1 := k.ok.li
  have k2 := k.ok.lo
  obtain ⟨x0, x1, x2, x3, x4, x5, x6, x7, x8, x9, x10⟩ := h.rcells
  obtain ⟨y0, y1, y2, y3, y4, y5, y6, y7, y8, y9, y10⟩ := k.rcells
  exact ⟨fun n => conv_row (h.below (belowD w n)).ri (by omega), fun n => conv_row (k.below (belowD w n)).ri (by omega), fun n => conv_row (h.below (belowD w n)).ro (by omega), fun n => conv_row (k.below (belowD w n)).ro (by omega),
    x9, y9, x10, y10, x2, y2, x3, y3, x4, y4, x5, y5, x6, y6, x7, y7, x8, y8, x0, x1, y0, y1, strEq h.ri.byt k.ri.byt, strEq h.ro.byt k.ro.byt⟩
theorem Meets.drewN {w : World} {a b : Nat} {t u : US} {s1 s2 s3 s4 : ByteArray} {vi vo ui uo : Value} (h : Meets w a b t u s1 s2 s3 s4 vi vo ui uo) (k : Nat) : Meets (w.drewN k) a b t u s1 s2 s3 s4 vi vo ui uo := by
  obtain ⟨e1, e2, e3, e4, x1, x2, x3, x4, x5, x6, x7, x8, x9, x10, x11, x12, x13, x14, x15, x16, x17, x18, a0, a1, b0, b1, c1, c2⟩ := h
  exact ⟨fun n => by rw [World.drewN_drewN]; exact e1 _, fun n => by rw [World.drewN_drewN]; exact e2 _, fun n => by rw [World.drewN_drewN]; exact e3 _, fun n => by rw [World.drewN_drewN]; exact e4 _, x1, x2, x3, x4, x5, x6, x7, x8, x9, x10, x11, x12, x13, x14, x15, x16, x17, x18, a0, a1, b0, b1, c1, c2⟩
theorem ne_of_beq {α : Type} [BEq α] {x y : α} {r : Bool} (h : (x == y) = r) : (x != y) = !r := by unfold bne; rw [h]

set_option maxRecDepth 100000 in
set_option maxHeartbeats 4000000 in
theorem refSame_0 (w : World) (a b : Nat) (t u : US) (s1 s2 s3 s4 : ByteArray) (ai ao bi bo : Option Addr) (ni no mi mo ci co di do_ : Nat) (h : Meets w a b t u s1 s2 s3 s4 (.slice ai ni ci) (.slice ao no co) (.slice bi mi di) (.slice bo mo do_)) (q0 : (s1.toList == s2.toList) = false) :
    Calls Tryd.prog 24 #[.pointer (some ⟨a, 0, none⟩), .pointer (some ⟨b, 0, none⟩)] w (SaysB w false) := by
  obtain ⟨e1, e2, e3, e4, a_lost, b_lost, a_sent, b_sent, _, _, _, _, _, _, _, _, _, _, _, _, _, _, a0, a1, b0, b1, c1, c2⟩ := h
  clear c1 c2
  clear e3 e4
  go_enter Tryd.func24, Tryd.ntmps24
  go_wp2
  go_quiet (fail)
  go_wp2
  go_ret
  exact ⟨rfl, belowD w _⟩
set_option maxRecDepth 100000 in
set_option maxHeartbeats 4000000 in
theorem refSame_1 (w : World) (a b : Nat) (t u : US) (s1 s2 s3 s4 : ByteArray) (ai ao bi bo : Option Addr) (ni no mi mo ci co di do_ : Nat) (h : Meets w a b t u s1 s2 s3 s4 (.slice ai ni ci) (.slice ao no co) (.slice bi mi di) (.slice bo mo do_)) (q0 : (s1.toList == s2.toList) = true) (q1 : (s3.toList == s4.toList) = false) :
    Calls Tryd.prog 24 #[.pointer (some ⟨a, 0, none⟩), .pointer (some ⟨b, 0, none⟩)] w (SaysB w false) := by
  obtain ⟨e1, e2, e3, e4, a_lost, b_lost, a_sent, b_sent, _, _, _, _, _, _, _, _, _, _, _, _, _, _, a0, a1, b0, b1, c1, c2⟩ := h
  clear c1 c2
  go_enter Tryd.func24, Tryd.ntmps24
  go_wp2
  go_quiet (fail)
  go_wp2
  go_ret
  exact ⟨rfl, belowD w _⟩
set_option maxRecDepth 100000 in
set_option maxHeartbeats 4000000 in
theorem refSame_2 (w : World) (a b : Nat) (t u : US) (s1 s2 s3 s4 : ByteArray) (ai ao bi bo : Option Addr) (ni no mi mo ci co di do_ : Nat) (h : Meets w a b t u s1 s2 s3 s4 (.slice ai ni ci) (.slice ao no co) (.slice bi mi di) (.slice bo mo do_)) (q0 : (s1.toList == s2.toList) = true) (q1 : (s3.toList == s4.toList) = true) (q2 : (t.lost == u.lost) = false) :
    Calls Tryd.prog 24 #[.pointer (some ⟨a, 0, none⟩), .pointer (some ⟨b, 0, none⟩)] w (SaysB w false) := by
  obtain ⟨e1, e2, e3, e4, a_lost, b_lost, a_sent, b_sent, _, _, _, _, _, _, _, _, _, _, _, _, _, _, a0, a1, b0, b1, c1, c2⟩ := h
  clear c1 c2
  go_enter Tryd.func24, Tryd.ntmps24
  go_wp2
  go_quiet (fail)
  go_wp2
  go_ret
  exact ⟨rfl, belowD w _⟩
set_option maxRecDepth 100000 in
set_option maxHeartbeats 4000000 in
theorem refSame_3 (w : World) (a b : Nat) (t u : US) (s1 s2 s3 s4 : ByteArray) (ai ao bi bo : Option Addr) (ni no mi mo ci co di do_ : Nat) (h : Meets w a b t u s1 s2 s3 s4 (.slice ai ni ci) (.slice ao no co) (.slice bi mi di) (.slice bo mo do_)) (q0 : (s1.toList == s2.toList) = true) (q1 : (s3.toList == s4.toList) = true) (q2 : (t.lost == u.lost) = true) (q3 : (t.sent == u.sent) = false) :
    Calls Tryd.prog 24 #[.pointer (some ⟨a, 0, none⟩), .pointer (some ⟨b, 0, none⟩)] w (SaysB w false) := by
  obtain ⟨e1, e2, e3, e4, a_lost, b_lost, a_sent, b_sent, _, _, _, _, _, _, _, _, _, _, _, _, _, _, a0, a1, b0, b1, c1, c2⟩ := h
  clear c1 c2
  go_enter Tryd.func24, Tryd.ntmps24
  go_wp2
  go_quiet (fail)
  go_wp2
  go_ret
  exact ⟨rfl, belowD w _⟩
theorem regs_ways (t u : US) : ((t.ier == u.ier) = false) ∨ ((t.ier == u.ier) = true ∧ (t.fcr == u.fcr) = false) ∨ ((t.ier == u.ier) = true ∧ (t.fcr == u.fcr) = true ∧ (t.lcr == u.lcr) = false) ∨ ((t.ier == u.ier) = true ∧ (t.fcr == u.fcr) = true ∧ (t.lcr == u.lcr) = true ∧ (t.mcr == u.mcr) = false) ∨ ((t.ier == u.ier) = true ∧ (t.fcr == u.fcr) = true ∧ (t.lcr == u.lcr) = true ∧ (t.mcr == u.mcr) = true ∧ (t.scr == u.scr) = false) ∨ ((t.ier == u.ier) = true ∧ (t.fcr == u.fcr) = true ∧ (t.lcr == u.lcr) = true ∧ (t.mcr == u.mcr) = true ∧ (t.scr == u.scr) = true ∧ (t.dl == u.dl) = false) ∨ ((t.ier == u.ier) = true ∧ (t.fcr == u.fcr) = true ∧ (t.lcr == u.lcr) = true ∧ (t.mcr == u.mcr) = true ∧ (t.scr == u.scr) = true ∧ (t.dl == u.dl) = true ∧ (t.dm == u.dm) = false) ∨ ((t.ier == u.ier) = true ∧ (t.fcr == u.fcr) = true ∧ (t.lcr == u.lcr) = true ∧ (t.mcr == u.mcr) = true ∧ (t.scr == u.scr) = true ∧ (t.dl == u.dl) = true ∧ (t.dm == u.dm) = true) := by
  cases (t.ier == u.ier)
  · exact .inl rfl
  cases (t.fcr == u.fcr)
  · exact .inr (.inl ⟨rfl, rfl⟩)
  cases (t.lcr == u.lcr)
  · exact .inr (.inr (.inl ⟨rfl, rfl, rfl⟩))
  cases (t.mcr == u.mcr)
  · exact .inr (.inr (.inr (.inl ⟨rfl, rfl, rfl, rfl⟩)))
  cases (t.scr == u.scr)
  · exact .inr (.inr (.inr (.inr (.inl ⟨rfl, rfl, rfl, rfl, rfl⟩))))
  cases (t.dl == u.dl)
  · exact .inr (.inr (.inr (.inr (.inr (.inl ⟨rfl, rfl, rfl, rfl, rfl, rfl⟩)))))
  cases (t.dm == u.dm)
  · exact .inr (.inr (.inr (.inr (.inr (.inr (.inl ⟨rfl, rfl, rfl, rfl, rfl, rfl, rfl⟩))))))
  · exact .inr (.inr (.inr (.inr (.inr (.inr (.inr ⟨rfl, rfl, rfl, rfl, rfl, rfl, rfl⟩))))))
set_option maxRecDepth 100000 in
set_option maxHeartbeats 16000000 in
theorem refSame_regs (w : World) (a b : Nat) (t u : US) (s1 s2 s3 s4 : ByteArray) (ai ao bi bo : Option Addr) (ni no mi mo ci co di do_ : Nat) (h : Meets w a b t u s1 s2 s3 s4 (.slice ai ni ci) (.slice ao no co) (.slice bi mi di) (.slice bo mo do_)) (q0 : (s1.toList == s2.toList) = true) (q1 : (s3.toList == s4.toList) = true) (q2 : (t.lost == u.lost) = true) (q3 : (t.sent == u.sent) = true) :
    Calls Tryd.prog 24 #[.pointer (some ⟨a, 0, none⟩), .pointer (some ⟨b, 0, none⟩)] w (SaysB w (regEq t u)) := by
  have H := Lib.hid h
  obtain ⟨e1, e2, e3, e4, a_lost, b_lost, a_sent, b_sent, _, _, _, _, _, _, _, _, _, _, _, _, _, _, a0, a1, b0, b1, c1, c2⟩ := h
  clear c1 c2
  have HD := Lib.hid (regs_ways t u)
  go_enter Tryd.func24, Tryd.ntmps24
  go_wp2
  go_quiet (fail)
  go_wp2
  have H2 := Lib.hid (H.out.drewN nq)
  have HB := Lib.hid (belowD w nq)
  clear e1 e2 e3 e4 a_lost b_lost a_sent b_sent a0 a1 b0 b1 H q0 q1 q2 q3
  generalize w.drewN nq = w2 at *
  simp only [List.append]
  refine wp_region_quiet_lit (by kernel_rfl) (by kernel_rfl) ?_
  rcases HD.out with p0 | ⟨p0, p1⟩ | ⟨p0, p1, p2⟩ | ⟨p0, p1, p2, p3⟩ | ⟨p0, p1, p2, p3, p4⟩ | ⟨p0, p1, p2, p3, p4, p5⟩ | ⟨p0, p1, p2, p3, p4, p5, p6⟩ | ⟨p0, p1, p2, p3, p4, p5, p6⟩
  · have hR : regEq t u = false := by unfold regEq; simp only [p0, Bool.true_and, Bool.false_and, Bool.and_true]
    have HRR := Lib.hid hR
    clear hR HD
    obtain ⟨_, _, _, _, _, _, _, _, a_ier, b_ier, _, _, _, _, _, _, _, _, _, _, _, _, _, _, _, _, _, _⟩ := H2.out
    clear H2
    repeat go_big_quiet_step (fail)
    refine wpQuiet_nil ?_
    intro _ hw2
    obtain ⟨nq2, hw3⟩ := hw2
    subst hw3
    go_wp2
    go_ret
    exact ⟨by rw [HRR.out]; rfl, HB.out.trans ((belowD w2 _).mono HB.out.size)⟩
  · have hR : regEq t u = false := by unfold regEq; simp only [p0, p1, Bool.true_and, Bool.false_and, Bool.and_true]
    have HRR := Lib.hid hR
    clear hR HD
    obtain ⟨_, _, _, _, _, _, _, _, a_ier, b_ier, a_fcr, b_fcr, _, _, _, _, _, _, _, _, _, _, _, _, _, _, _, _⟩ := H2.out
    clear H2
    repeat go_big_quiet_step (fail)
    refine wpQuiet_nil ?_
    intro _ hw2
    obtain ⟨nq2, hw3⟩ := hw2
    subst hw3
    go_wp2
    go_ret
    exact ⟨by rw [HRR.out]; rfl, HB.out.trans ((belowD w2 _).mono HB.out.size)⟩
  · have hR : regEq t u = false := by unfold regEq; simp only [p0, p1, p2, Bool.true_and, Bool.false_and, Bool.and_true]
    have HRR := Lib.hid hR
    clear hR HD
    obtain ⟨_, _, _, _, _, _, _, _, a_ier, b_ier, a_fcr, b_fcr, a_lcr, b_lcr, _, _, _, _, _, _, _, _, _, _, _, _, _, _⟩ := H2.out
    clear H2
    repeat go_big_quiet_step (fail)
    refine wpQuiet_nil ?_
    intro _ hw2
    obtain ⟨nq2, hw3⟩ := hw2
    subst hw3
    go_wp2
    go_ret
    exact ⟨by rw [HRR.out]; rfl, HB.out.trans ((belowD w2 _).mono HB.out.size)⟩
  · have hR : regEq t u = false := by unfold regEq; simp only [p0, p1, p2, p3, Bool.true_and, Bool.false_and, Bool.and_true]
    have HRR := Lib.hid hR
    clear hR HD
    obtain ⟨_, _, _, _, _, _, _, _, a_ier, b_ier, a_fcr, b_fcr, a_lcr, b_lcr, a_mcr, b_mcr, _, _, _, _, _, _, _, _, _, _, _, _⟩ := H2.out
    clear H2
    repeat go_big_quiet_step (fail)
    refine wpQuiet_nil ?_
    intro _ hw2
    obtain ⟨nq2, hw3⟩ := hw2
    subst hw3
    go_wp2
    go_ret
    exact ⟨by rw [HRR.out]; rfl, HB.out.trans ((belowD w2 _).mono HB.out.size)⟩
  · have hR : regEq t u = false := by unfold regEq; simp only [p0, p1, p2, p3, p4, Bool.true_and, Bool.false_and, Bool.and_true]
    have HRR := Lib.hid hR
    clear hR HD
    obtain ⟨_, _, _, _, _, _, _, _, a_ier, b_ier, a_fcr, b_fcr, a_lcr, b_lcr, a_mcr, b_mcr, a_scr, b_scr, _, _, _, _, _, _, _, _, _, _⟩ := H2.out
    clear H2
    repeat go_big_quiet_step (fail)
    refine wpQuiet_nil ?_
    intro _ hw2
    obtain ⟨nq2, hw3⟩ := hw2
    subst hw3
    go_wp2
    go_ret
    exact ⟨by rw [HRR.out]; rfl, HB.out.trans ((belowD w2 _).mono HB.out.size)⟩
  · have hR : regEq t u = false := by unfold regEq; simp only [p0, p1, p2, p3, p4, p5, Bool.true_and, Bool.false_and, Bool.and_true]
    have HRR := Lib.hid hR
    clear hR HD
    obtain ⟨_, _, _, _, _, _, _, _, a_ier, b_ier, a_fcr, b_fcr, a_lcr, b_lcr, a_mcr, b_mcr, a_scr, b_scr, a_dl, b_dl, _, _, _, _, _, _, _, _⟩ := H2.out
    clear H2
    repeat go_big_quiet_step (fail)
    refine wpQuiet_nil ?_
    intro _ hw2
    obtain ⟨nq2, hw3⟩ := hw2
    subst hw3
    go_wp2
    go_ret
    exact ⟨by rw [HRR.out]; rfl, HB.out.trans ((belowD w2 _).mono HB.out.size)⟩
  · have hR : regEq t u = false := by unfold regEq; simp only [p0, p1, p2, p3, p4, p5, p6, Bool.true_and, Bool.false_and, Bool.and_true]
    have HRR := Lib.hid hR
    clear hR HD
    obtain ⟨_, _, _, _, _, _, _, _, a_ier, b_ier, a_fcr, b_fcr, a_lcr, b_lcr, a_mcr, b_mcr, a_scr, b_scr, a_dl, b_dl, a_dm, b_dm, _, _, _, _, _, _⟩ := H2.out
    clear H2
    repeat go_big_quiet_step (fail)
    refine wpQuiet_nil ?_
    intro _ hw2
    obtain ⟨nq2, hw3⟩ := hw2
    subst hw3
    go_wp2
    go_ret
    exact ⟨by rw [HRR.out]; rfl, HB.out.trans ((belowD w2 _).mono HB.out.size)⟩
  · have hR : regEq t u = true := by unfold regEq; simp only [p0, p1, p2, p3, p4, p5, p6, Bool.true_and, Bool.false_and, Bool.and_true]
    have HRR := Lib.hid hR
    clear hR HD
    obtain ⟨_, _, _, _, _, _, _, _, a_ier, b_ier, a_fcr, b_fcr, a_lcr, b_lcr, a_mcr, b_mcr, a_scr, b_scr, a_dl, b_dl, a_dm, b_dm, _, _, _, _, _, _⟩ := H2.out
    clear H2
    repeat go_big_quiet_step (fail)
    refine wpQuiet_nil ?_
    intro _ hw2
    obtain ⟨nq2, hw3⟩ := hw2
    subst hw3
    go_wp2
    go_ret
    exact ⟨by rw [HRR.out]; rfl, HB.out.trans ((belowD w2 _).mono HB.out.size)⟩

theorem sameU_eq (t u : US) : sameU t u = (decide (t.inn = u.inn) && (decide (t.out = u.out) && (((t.lost == u.lost) && (t.sent == u.sent)) && ((t.ier == u.ier) && ((t.fcr == u.fcr) && ((t.lcr == u.lcr) && ((t.mcr == u.mcr) && ((t.scr == u.scr) && ((t.dl == u.dl) && (t.dm == u.dm)))))))))) := rfl
theorem refSame_any (w : World) (a b : Nat) (Fa Fb : Nat → Prop) (t u : US) (h : UR w a Fa t) (k : UR w b Fb u) :
    Calls Tryd.prog 24 #[.pointer (some ⟨a, 0, none⟩), .pointer (some ⟨b, 0, none⟩)] w (SaysB w (sameU t u)) := by
  obtain ⟨vi, vo, h⟩ := h
  obtain ⟨ui, uo, k⟩ := k
  have h1 := h.ok.li
  have h2 := h.ok.lo
  have k1 := k.ok.li
  have k2 := k.ok.lo
  have M := meets h k
  obtain ⟨ai, ci, rfl, _⟩ := h.ri.reads (by omega)
  obtain ⟨ao, co, rfl, _⟩ := h.ro.reads (by omega)
  obtain ⟨bi, di, rfl, _⟩ := k.ri.reads (by omega)
  obtain ⟨bo, do_, rfl, _⟩ := k.ro.reads (by omega)
  have ER := sameU_eq t u
  have m1 := M.c1
  have m2 := M.c2
  have m3 : (t.lost == u.lost) = (t.lost == u.lost) := rfl
  have m4 : (t.sent == u.sent) = (t.sent == u.sent) := rfl
  cases r0 : decide (t.inn = u.inn)
  case false => rw [r0] at ER m1; rw [ER]; exact refSame_0 w a b t u _ _ _ _ _ _ _ _ _ _ _ _ _ _ _ _ M  m1
  case true =>
    rw [r0] at ER m1
    cases r1 : decide (t.out = u.out)
    case false => rw [r1] at ER m2; rw [ER]; exact refSame_1 w a b t u _ _ _ _ _ _ _ _ _ _ _ _ _ _ _ _ M m1 m2
    case true =>
      rw [r1] at ER m2
      cases r2 : (t.lost == u.lost)
      case false => rw [r2] at ER; rw [show sameU t u = false by rw [ER]; simp]; exact refSame_2 w a b t u _ _ _ _ _ _ _ _ _ _ _ _ _ _ _ _ M m1 m2 r2
      case true =>
        rw [r2] at ER
        cases r3 : (t.sent == u.sent)
        case false => rw [r3] at ER; rw [show sameU t u = false by rw [ER]; simp]; exact refSame_3 w a b t u _ _ _ _ _ _ _ _ _ _ _ _ _ _ _ _ M m1 m2 r2 r3
        case true =>
          rw [r3] at ER
          rw [show sameU t u = regEq t u by rw [ER]; simp [regEq]]
          exact refSame_regs w a b t u _ _ _ _ _ _ _ _ _ _ _ _ _ _ _ _ M m1 m2 r2 r3

end Go.Proofs.YtcbjfkbmbjmnbaaDoor
