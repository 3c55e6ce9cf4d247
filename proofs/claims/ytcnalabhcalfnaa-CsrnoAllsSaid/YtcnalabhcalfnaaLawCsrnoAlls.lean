/- Layer 11: the walk of CsrnoAlls (written by gen_cnlaws.py). -/
import Derived.Test.YtcnalabhcalfnaaCnL
import Derived.Deep.QuietTactic
import Derived.BigQuiet
namespace Go.Proofs.Ytcnalabhcalfnaa
open Go.RowKit
set_option linter.unusedVariables false
set_option maxRecDepth 100000

theorem nums_all : numsTo 4096 = noL.map Int.ofNat := by decide +kernel
theorem noL_len : (noL.map Int.ofNat).length = 56 := by decide +kernel
set_option maxHeartbeats 2000000 in
theorem csrnoAlls_walk (w : World) :
    Calls Try.prog 4 #[] w fun e w' => e = .returned (.bool true) ∧ Below w.heap.size w w' := by
  have HW := Lib.hid fun w => wakes_any w
  have HA := Lib.hid fun w => all_any w
  have HR := Lib.hid fun w => refAll_any w
  rw [nums_all] at HR
  generalize hL : noL.map Int.ofNat = L at *
  have hlen : L.length = 56 := by rw [← hL]; exact noL_len
  have HLEN := Lib.hid hlen
  clear hL hlen
  go_enter Try.func4, Try.ntmps4
  go_wp2_with (fail)
  (with_reducible refine (HA.out _).mono ?_); rintro e w1 ⟨v1, rfl, hr, hb⟩; have HB1 := Lib.hid hb; have HR1 := Lib.hid hr; clear hb hr
  go_wp2_with (fail)
  (with_reducible refine (HR.out _).mono ?_); rintro e w2 ⟨v2, rfl, hr, hb⟩; have HB2 := Lib.hid (HB1.out.trans (hb.mono HB1.out.size)); have HR2 := Lib.hid hr; have HR3 := Lib.hid ((HR1.out.below hb (Nat.le_refl _)).mono hb.size); clear hb hr HR1 HB1
  obtain ⟨a1, c1, e1, m1, q1⟩ := HR3.out
  obtain ⟨a2, c2, e2, m2, q2⟩ := HR2.out
  rw [HLEN.out] at e1 e2 q1 q2
  subst e1 e2
  obtain ⟨b1, o1, ha1, hb1, hc1⟩ := q1.resolve_left (fun e => by have := HLEN.out; rw [e] at this; simp at this)
  obtain ⟨b2, o2, ha2, hb2, hc2⟩ := q2.resolve_left (fun e => by have := HLEN.out; rw [e] at this; simp at this)
  subst ha1 ha2
  have HC1 := Lib.hid hc1
  have HC2 := Lib.hid hc2
  clear hc1 hc2 HR2 HR3 m1 m2 q1 q2 HLEN HA HR
  go_wp2
  go_loopw [3] (fun i wr => ∃ k : Nat, k ≤ 56 ∧ i = .int .i64 k ∧ Below w2.heap.size w2 wr) (fun i _ => 57 - (intOf i).toNat)
  case atStart => exact ⟨0, Nat.zero_le _, rfl, Below.refl _ _⟩
  case round =>
    obtain ⟨k, hk, rfl, hbr⟩ := hrel
    by_cases hlt : k < 56
    · have h1 : wr.cell? ⟨b1, o1 + k, none⟩ = some (.int .i64 (L.getD k 0)) := (hbr.cell (p := ⟨b1, o1 + k, none⟩) hb1).trans (HC1.out k hlt)
      have h2 : wr.cell? ⟨b2, o2 + k, none⟩ = some (.int .i64 (L.getD k 0)) := (hbr.cell (p := ⟨b2, o2 + k, none⟩) hb2).trans (HC2.out k hlt)
      have HBR := Lib.hid hbr
      clear hbr
      have hlt2 : (k : Int) < 56 := by omega
      generalize L.getD k 0 = x at *
      have hx : (x != x) = false := by simp
      go_wp2
      go_quiet (fail)
      go_wp2
      go_roundw
      case rel => exact ⟨k + 1, by omega, by go_num, HBR.out.trans ⟨rfl, rfl, rfl, Nat.le_refl _, fun _ _ => rfl⟩⟩
      case measure => simp [intOf]; omega
    · go_wp2_with ((with_reducible refine (HW.out _).mono ?_); rintro e w3 ⟨rfl, hb⟩; have HB3 := Lib.hid (hbr.trans (hb.mono hbr.size)); clear hb)
      go_ret
      exact ⟨rfl, HB2.out.trans (HB3.out.mono HB2.out.size)⟩

end Go.Proofs.Ytcnalabhcalfnaa
