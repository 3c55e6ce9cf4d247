/- Layer 6: the program's uart: Same, walked. -/
import Derived.Test.YtcbjfkbmbjmnbaaDoorUl
namespace Go.Proofs.YtcbjfkbmbjmnbaaDoor
open Go.RowKit
set_option linter.unusedVariables false

theorem same_nn (w : World) : Calls Tryd.prog 19 #[.pointer none, .pointer none] w fun e w' => e = .returned (.bool true) ∧ w = w' := by
  go_enter Tryd.func19, Tryd.ntmps19
  go_wp2
  go_ret
  exact ⟨rfl, rfl⟩
theorem same_pn (w : World) (b : Nat) : Calls Tryd.prog 19 #[.pointer (some ⟨b, 0, none⟩), .pointer none] w fun e w' => e = .returned (.bool false) ∧ w = w' := by
  go_enter Tryd.func19, Tryd.ntmps19
  go_wp2
  go_ret
  exact ⟨rfl, rfl⟩
theorem same_np (w : World) (b : Nat) : Calls Tryd.prog 19 #[.pointer none, .pointer (some ⟨b, 0, none⟩)] w fun e w' => e = .returned (.bool false) ∧ w = w' := by
  have hq : (binOp .eql 22 (.pointer none) (.pointer (some ⟨b, 0, none⟩))).run Tryd.prog w = .ok (.bool false) w := by kernel_rfl
  go_enter Tryd.func19, Tryd.ntmps19
  go_wp2
  go_ret
  exact ⟨rfl, rfl⟩

/-- A call that tells a bool and turns nothing. -/
def SaysB (w : World) (r : Bool) (e : Ending) (w' : World) : Prop := e = .returned (.bool r) ∧ Below w.heap.size w w'
set_option maxRecDepth 100000 in
set_option maxHeartbeats 8000000 in
theorem same_any (w : World) (a b : Nat) (Fa Fb : Nat → Prop) (t u : US) (h : UP w a Fa t) (k : UP w b Fb u) :
    Calls Tryd.prog 19 #[.pointer (some ⟨a, 0, none⟩), .pointer (some ⟨b, 0, none⟩)] w (SaysB w (sameU t u)) := by
  obtain ⟨vi, vo, h⟩ := h
  obtain ⟨ui, uo, k⟩ := k
  have h1 := h.ok.li
  have h2 := h.ok.lo
  have k1 := k.ok.li
  have k2 := k.ok.lo
  have HE1 : Hid (∀ n, Calls Tryd.prog 34 #[vi, ui] (w.drewN n) fun e w' => e = .returned (.bool (decide (t.inn = u.inn))) ∧ w' = w.drewN n) := Lib.hid fun n => (equal_any (w.drewN n) vi ui t.inn u.inn (h.below (belowD w n)).ri (k.below (belowD w n)).ri (by omega) (by omega)).mono fun e w' h => ⟨h.1, h.2.symm⟩
  have HE2 : Hid (∀ n, Calls Tryd.prog 34 #[vo, uo] (w.drewN n) fun e w' => e = .returned (.bool (decide (t.out = u.out))) ∧ w' = w.drewN n) := Lib.hid fun n => (equal_any (w.drewN n) vo uo t.out u.out (h.below (belowD w n)).ro (k.below (belowD w n)).ro (by omega) (by omega)).mono fun e w' h => ⟨h.1, h.2.symm⟩
  obtain ⟨ai, ci, rfl, _, _, _⟩ := h.ri.reads (by omega)
  obtain ⟨ao, co, rfl, _, _, _⟩ := h.ro.reads (by omega)
  obtain ⟨bi, di, rfl, _, _, _⟩ := k.ri.reads (by omega)
  obtain ⟨bo, do_, rfl, _, _, _⟩ := k.ro.reads (by omega)
  obtain ⟨c0, c1, c2, c3⟩ := h.pcells
  obtain ⟨c4, c5, c6, c7, c8, c9, c10, c11, c12, c13⟩ := h.pregs
  obtain ⟨d0, d1, d2, d3⟩ := k.pcells
  obtain ⟨d4, d5, d6, d7, d8, d9, d10, d11, d12, d13⟩ := k.pregs
  have hm := fun wz => eql_marks t u wz
  have hg := fun wz => eql_regs t u wz
  unfold marksA at hm
  unfold regsA at hg
  have HU : Hid (sameU t u = (decide (t.inn = u.inn) && (decide (t.out = u.out) && (((t.lost == u.lost) && (t.sent == u.sent)) && regEq t u)))) := Lib.hid rfl
  clear h k h1 h2 k1 k2
  generalize sameU t u = R at *
  generalize regEq t u = rg at *
  generalize (t.lost == u.lost && t.sent == u.sent) = mk at *
  generalize decide (t.inn = u.inn) = r1 at *
  generalize decide (t.out = u.out) = r2 at *
  cases r1 with
  | false =>
    go_enter Tryd.func19, Tryd.ntmps19
    go_wp2
    go_quiet (((go_at_call 34; exact Calls.quiet_of_same (HE1.out _))))
    go_wp2
    go_ret
    exact ⟨by rw [HU.out]; rfl, belowD w _⟩
  | true =>
    cases r2 with
    | false =>
      go_enter Tryd.func19, Tryd.ntmps19
      go_wp2
      go_quiet ((first | (go_at_call 34; exact Calls.quiet_of_same (HE1.out _)) | (go_at_call 34; exact Calls.quiet_of_same (HE2.out _))))
      go_wp2
      go_ret
      exact ⟨by rw [HU.out]; rfl, belowD w _⟩
    | true =>
      cases mk with
      | false =>
        go_enter Tryd.func19, Tryd.ntmps19
        go_wp2
        go_quiet ((first | (go_at_call 34; exact Calls.quiet_of_same (HE1.out _)) | (go_at_call 34; exact Calls.quiet_of_same (HE2.out _))))
        go_wp2
        go_ret
        exact ⟨by rw [HU.out]; rfl, belowD w _⟩
      | true =>
        go_enter Tryd.func19, Tryd.ntmps19
        go_wp2
        go_quiet ((first | (go_at_call 34; exact Calls.quiet_of_same (HE1.out _)) | (go_at_call 34; exact Calls.quiet_of_same (HE2.out _))))
        go_wp2
        go_ret
        exact ⟨by rw [HU.out]; rfl, belowD w _⟩

end Go.Proofs.YtcbjfkbmbjmnbaaDoor
