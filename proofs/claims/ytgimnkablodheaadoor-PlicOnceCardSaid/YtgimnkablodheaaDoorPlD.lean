/- Layer 5: the document's plic by value: Best. -/
import Derived.Test.YtgimnkablodheaaDoorPlC
import Derived.IntWalk
namespace Go.Proofs.YtgimnkablodheaaDoor
open Go.RowKit
set_option linter.unusedVariables false

set_option maxRecDepth 100000 in
set_option maxHeartbeats 4000000 in
theorem refBest_0 (w : World) (t : PS) : Calls Tryd.prog 16 #[refPV t, .int .i64 0] w fun e w' => e = .returned (.int .i64 (bestTo t 0 31)) ∧ Below w.heap.size w w' := by
  have HP := Lib.hid (refP_boxed w t)
  have HB := Lib.hid ((Below.refl w.heap.size w).alloc (Nat.le_refl _) (.cells (varr 194 (cellR t)) 45))
  show Calls Tryd.prog 16 #[.agg (varr 194 (cellR t)), .int .i64 0] w _
  generalize varr 194 (cellR t) = row at *
  go_enter Tryd.func16, Tryd.ntmps16
  go_wp2_with fail
  generalize w.alloc (.cells row 45) = w1 at *
  go_loopw [5, 6] (fun bb ii wr => ∃ i b : Nat, i ≤ 31 ∧ ii = .int .i64 i ∧ bb = .int .i64 b ∧ b ≤ 31 ∧ Hid (b = bestTo t 0 (31 - i)) ∧ RefP wr w.heap.size t ∧ Below w.heap.size w wr) (fun _ ii _ => (intOf ii).toNat)
  case atStart => exact ⟨31, 0, Nat.le_refl _, rfl, rfl, by omega, Lib.hid rfl, HP.out, HB.out⟩
  case round =>
    obtain ⟨i, b, hi, rfl, rfl, hb31, HBE, hR, hbr⟩ := hrel
    have HR := Lib.hid hR
    have HBR := Lib.hid hbr
    clear hbr
    by_cases hi1 : 1 ≤ i
    · obtain ⟨j, rfl⟩ : ∃ j, i = j + 1 := ⟨i - 1, by omega⟩
      have hwj : IntKind.i64.wrap (j : Int) = j := IntWalk.i64_in _ (by omega)
      have i1 : (j : Int) + 1 < 32 := by omega
      have i0 : (0 : Int) ≤ (j : Int) + 1 := by omega
      have ib : (b : Int) < 32 := by omega
      have k2 : wr.cell? ⟨w.heap.size, (j + 1) * 6 + 2, none⟩ = some (.bool (t.pend (j + 1))) := hR.src (by omega) (by omega)
      have k4 : wr.cell? ⟨w.heap.size, (j + 1) * 6 + 4, none⟩ = some (.bool (t.on (j + 1) 0)) := hR.src (s := j + 1) (j := 4) (by omega) (by omega)
      have k0 : wr.cell? ⟨w.heap.size, (j + 1) * 6, none⟩ = some (.int .u64 (t.prio (j + 1))) := hR.src (s := j + 1) (j := 0) (by omega) (by omega)
      have kb : wr.cell? ⟨w.heap.size, b * 6, none⟩ = some (.int .u64 (t.prio b)) := hR.src (s := b) (j := 0) (by omega) (by omega)
      clear hR
      have HN := best_step (c := 0) (i := j + 1) (by omega) hi HBE.out
      rw [show j + 1 - 1 = j by omega] at HN
      have END : Hid (∀ (b2 : Nat) (n : Nat), bestTo t 0 (31 - j) = b2 → b2 ≤ 31 → ∃ i b : Nat, i ≤ 31 ∧ Value.int .i64 (j : Int) = .int .i64 i ∧ Value.int .i64 (b2 : Int) = .int .i64 b ∧ b ≤ 31 ∧ Hid (b = bestTo t 0 (31 - i)) ∧ RefP (wr.drewN n) w.heap.size t ∧ Below w.heap.size w (wr.drewN n)) :=
        Lib.hid fun b2 n h1 h2 => ⟨j, b2, by omega, rfl, rfl, h2, Lib.hid h1.symm, HR.out, ⟨HBR.out.os, HBR.out.tape, HBR.out.output, HBR.out.size, HBR.out.block⟩⟩
      have HN2 := Lib.hid HN
      clear HN
      obtain ⟨p, hp⟩ : ∃ p, t.pend (j + 1) = p := ⟨_, rfl⟩
      obtain ⟨q, hq⟩ : ∃ q, t.on (j + 1) 0 = q := ⟨_, rfl⟩
      obtain ⟨x, hx⟩ : ∃ x, t.prio (j + 1) = x := ⟨_, rfl⟩
      obtain ⟨y, hy⟩ : ∃ y, t.prio b = y := ⟨_, rfl⟩
      rw [hp] at k2
      rw [hq] at k4
      rw [hx] at k0
      rw [hy] at kb
      rw [hp, hq, hx, hy] at HN2
      clear hp hq hx hy hi1
      cases p with
      | false =>
        go_wp2_with fail
        go_quiet (fail)
        go_wp2
        refine ⟨END.out b _ (HN2.out.trans (by simp [*])) (by omega), by simp [intOf]⟩
      | true =>
      cases q with
      | false =>
        go_wp2_with fail
        go_quiet (fail)
        go_wp2
        refine ⟨END.out b _ (HN2.out.trans (by simp [*])) (by omega), by simp [intOf]⟩
      | true =>
      by_cases hx0 : 0 < x
      · have hxd : decide (0 < x) = true := decide_eq_true hx0
        by_cases hb0 : b = 0
        · subst hb0
          go_wp2_with fail
          go_quiet (fail)
          go_wp2
          refine ⟨END.out (j + 1) _ (HN2.out.trans (by simp [*])) (by omega), by simp [intOf]⟩
        · have hbd : ((b : Int) == 0) = false := by simpa using hb0
          by_cases hyx : y ≤ x
          · have hyd : decide (y ≤ x) = true := decide_eq_true hyx
            go_wp2_with fail
            go_quiet (fail)
            go_wp2
            refine ⟨END.out (j + 1) _ (HN2.out.trans (by simp [*])) (by omega), by simp [intOf]⟩
          · have hyd : decide (y ≤ x) = false := decide_eq_false hyx
            go_wp2_with fail
            go_quiet (fail)
            go_wp2
            refine ⟨END.out b _ (HN2.out.trans (by simp [*])) (by omega), by simp [intOf]⟩
      · have hxd : decide (0 < x) = false := decide_eq_false hx0
        go_wp2_with fail
        go_quiet (fail)
        go_wp2
        refine ⟨END.out b _ (HN2.out.trans (by simp [*])) (by omega), by simp [intOf]⟩
    · obtain rfl : i = 0 := by omega
      have HE := Lib.hid HBE.out
      clear hR
      go_wp2
      go_ret
      exact ⟨by rw [HE.out]; rfl, HBR.out⟩

set_option maxRecDepth 100000 in
set_option maxHeartbeats 4000000 in
theorem refBest_1 (w : World) (t : PS) : Calls Tryd.prog 16 #[refPV t, .int .i64 1] w fun e w' => e = .returned (.int .i64 (bestTo t 1 31)) ∧ Below w.heap.size w w' := by
  have HP := Lib.hid (refP_boxed w t)
  have HB := Lib.hid ((Below.refl w.heap.size w).alloc (Nat.le_refl _) (.cells (varr 194 (cellR t)) 45))
  show Calls Tryd.prog 16 #[.agg (varr 194 (cellR t)), .int .i64 1] w _
  generalize varr 194 (cellR t) = row at *
  go_enter Tryd.func16, Tryd.ntmps16
  go_wp2_with fail
  generalize w.alloc (.cells row 45) = w1 at *
  go_loopw [5, 6] (fun bb ii wr => ∃ i b : Nat, i ≤ 31 ∧ ii = .int .i64 i ∧ bb = .int .i64 b ∧ b ≤ 31 ∧ Hid (b = bestTo t 1 (31 - i)) ∧ RefP wr w.heap.size t ∧ Below w.heap.size w wr) (fun _ ii _ => (intOf ii).toNat)
  case atStart => exact ⟨31, 0, Nat.le_refl _, rfl, rfl, by omega, Lib.hid rfl, HP.out, HB.out⟩
  case round =>
    obtain ⟨i, b, hi, rfl, rfl, hb31, HBE, hR, hbr⟩ := hrel
    have HR := Lib.hid hR
    have HBR := Lib.hid hbr
    clear hbr
    by_cases hi1 : 1 ≤ i
    · obtain ⟨j, rfl⟩ : ∃ j, i = j + 1 := ⟨i - 1, by omega⟩
      have hwj : IntKind.i64.wrap (j : Int) = j := IntWalk.i64_in _ (by omega)
      have i1 : (j : Int) + 1 < 32 := by omega
      have i0 : (0 : Int) ≤ (j : Int) + 1 := by omega
      have ib : (b : Int) < 32 := by omega
      have k2 : wr.cell? ⟨w.heap.size, (j + 1) * 6 + 2, none⟩ = some (.bool (t.pend (j + 1))) := hR.src (by omega) (by omega)
      have k4 : wr.cell? ⟨w.heap.size, (j + 1) * 6 + 4 + 1, none⟩ = some (.bool (t.on (j + 1) 1)) := hR.src (s := j + 1) (j := 5) (by omega) (by omega)
      have k0 : wr.cell? ⟨w.heap.size, (j + 1) * 6, none⟩ = some (.int .u64 (t.prio (j + 1))) := hR.src (s := j + 1) (j := 0) (by omega) (by omega)
      have kb : wr.cell? ⟨w.heap.size, b * 6, none⟩ = some (.int .u64 (t.prio b)) := hR.src (s := b) (j := 0) (by omega) (by omega)
      clear hR
      have HN := best_step (c := 1) (i := j + 1) (by omega) hi HBE.out
      rw [show j + 1 - 1 = j by omega] at HN
      have END : Hid (∀ (b2 : Nat) (n : Nat), bestTo t 1 (31 - j) = b2 → b2 ≤ 31 → ∃ i b : Nat, i ≤ 31 ∧ Value.int .i64 (j : Int) = .int .i64 i ∧ Value.int .i64 (b2 : Int) = .int .i64 b ∧ b ≤ 31 ∧ Hid (b = bestTo t 1 (31 - i)) ∧ RefP (wr.drewN n) w.heap.size t ∧ Below w.heap.size w (wr.drewN n)) :=
        Lib.hid fun b2 n h1 h2 => ⟨j, b2, by omega, rfl, rfl, h2, Lib.hid h1.symm, HR.out, ⟨HBR.out.os, HBR.out.tape, HBR.out.output, HBR.out.size, HBR.out.block⟩⟩
      have HN2 := Lib.hid HN
      clear HN
      obtain ⟨p, hp⟩ : ∃ p, t.pend (j + 1) = p := ⟨_, rfl⟩
      obtain ⟨q, hq⟩ : ∃ q, t.on (j + 1) 1 = q := ⟨_, rfl⟩
      obtain ⟨x, hx⟩ : ∃ x, t.prio (j + 1) = x := ⟨_, rfl⟩
      obtain ⟨y, hy⟩ : ∃ y, t.prio b = y := ⟨_, rfl⟩
      rw [hp] at k2
      rw [hq] at k4
      rw [hx] at k0
      rw [hy] at kb
      rw [hp, hq, hx, hy] at HN2
      clear hp hq hx hy hi1
      cases p with
      | false =>
        go_wp2_with fail
        go_quiet (fail)
        go_wp2
        refine ⟨END.out b _ (HN2.out.trans (by simp [*])) (by omega), by simp [intOf]⟩
      | true =>
      cases q with
      | false =>
        go_wp2_with fail
        go_quiet (fail)
        go_wp2
        refine ⟨END.out b _ (HN2.out.trans (by simp [*])) (by omega), by simp [intOf]⟩
      | true =>
      by_cases hx0 : 0 < x
      · have hxd : decide (0 < x) = true := decide_eq_true hx0
        by_cases hb0 : b = 0
        · subst hb0
          go_wp2_with fail
          go_quiet (fail)
          go_wp2
          refine ⟨END.out (j + 1) _ (HN2.out.trans (by simp [*])) (by omega), by simp [intOf]⟩
        · have hbd : ((b : Int) == 0) = false := by simpa using hb0
          by_cases hyx : y ≤ x
          · have hyd : decide (y ≤ x) = true := decide_eq_true hyx
            go_wp2_with fail
            go_quiet (fail)
            go_wp2
            refine ⟨END.out (j + 1) _ (HN2.out.trans (by simp [*])) (by omega), by simp [intOf]⟩
          · have hyd : decide (y ≤ x) = false := decide_eq_false hyx
            go_wp2_with fail
            go_quiet (fail)
            go_wp2
            refine ⟨END.out b _ (HN2.out.trans (by simp [*])) (by omega), by simp [intOf]⟩
      · have hxd : decide (0 < x) = false := decide_eq_false hx0
        go_wp2_with fail
        go_quiet (fail)
        go_wp2
        refine ⟨END.out b _ (HN2.out.trans (by simp [*])) (by omega), by simp [intOf]⟩
    · obtain rfl : i = 0 := by omega
      have HE := Lib.hid HBE.out
      clear hR
      go_wp2
      go_ret
      exact ⟨by rw [HE.out]; rfl, HBR.out⟩

end Go.Proofs.YtgimnkablodheaaDoor
