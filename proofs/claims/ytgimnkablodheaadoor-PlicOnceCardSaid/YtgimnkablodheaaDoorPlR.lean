/- Layer 5: the program's Best. -/
import Derived.Test.YtgimnkablodheaaDoorPlQ
import Derived.Deep.LoopGhost
namespace Go.Proofs.YtgimnkablodheaaDoor
open Go.RowKit
set_option linter.unusedVariables false

theorem pair_0 (x y : Value) (w : World) : (Instr.index 24 (.agg #[x, y]) (.int .i64 0)).run Tryd.prog w = .ok x w := by kernel_rfl
theorem pair_1 (x y : Value) (w : World) : (Instr.index 24 (.agg #[x, y]) (.int .i64 1)).run Tryd.prog w = .ok y w := by kernel_rfl

set_option maxRecDepth 100000 in
set_option maxHeartbeats 4000000 in
theorem best_0 (w : World) (t : PS) (ok : t.ok) : Calls Tryd.prog 13 #[progPV t, .int .i64 0] w fun e w' => e = .returned (.int .i64 (bestUp t 0 31)) ∧ Below w.heap.size w w' := by
  have HP := Lib.hid (progP_boxed w ok)
  have HB := Lib.hid ((Below.refl w.heap.size w).alloc (Nat.le_refl _) (.cells (varr 39 (cellQ t)) 27))
  have HC : Hid (isC 0 = true) := Lib.hid (by decide)
  show Calls Tryd.prog 13 #[.agg (varr 39 (cellQ t)), .int .i64 0] w _
  generalize varr 39 (cellQ t) = row at *
  go_enter Tryd.func13, Tryd.ntmps13
  go_wp2
  go_step3
  go_wp2_with fail
  (with_reducible refine (isContext_any _ _).mono ?_)
  rintro e w' ⟨rfl, rfl⟩
  rw [HC.out]
  go_wp2
  go_step3
  go_wp2
  generalize w.alloc (.cells row 27) = w1 at *
  go_loopg [5, 6] 31 (fun g bb ii wr => ∃ j b : Nat, j + g = 31 ∧ ii = .int .i64 ((j : Int) + 1) ∧ bb = .int .i64 b ∧ b ≤ 31 ∧ Hid (b = bestUp t 0 j) ∧ ProgP wr w.heap.size t ∧ Below w.heap.size w wr)
  case atStart => exact ⟨0, 0, by omega, rfl, rfl, by omega, Lib.hid rfl, HP.out, HB.out⟩
  case round =>
    obtain ⟨j, b, hj, rfl, rfl, hb31, HBE, hR, hbr⟩ := hrel
    have HR := Lib.hid hR
    have HBR := Lib.hid hbr
    clear hbr
    cases gk with
    | zero =>
      obtain rfl : j = 31 := by omega
      have HE := Lib.hid HBE.out
      clear hR
      go_wp2
      try rw [Exit.noGoto_ret]
      go_ret
      exact ⟨by rw [HE.out]; rfl, HBR.out⟩
    | succ g =>
      have hj2 : j + 1 < 32 := by omega
      have i1 : (j : Int) + 1 < 32 := by omega
      have i0 : (0 : Int) ≤ (j : Int) + 1 := by omega
      have ib : (b : Int) < 32 := by omega
      have hwj : IntKind.i64.wrap ((j : Int) + 1 + 1) = (j : Int) + 1 + 1 := IntWalk.i64_in _ (by omega)
      have kp : wr.cell? ⟨w.heap.size, 1, none⟩ = some (.int .u32 (bits32 t.pend)) := hR.pend_
      have ko : wr.cell? ⟨w.heap.size, 35, none⟩ = some (.int .u32 (bits32 fun s => t.on s 0)) := hR.on_ (c := 0) (by omega)
      have HN := Lib.hid (bestUp_step t HBE.out)
      have END : Hid (∀ (b2 : Nat) (w2 : World), Below wr.heap.size wr w2 → bestUp t 0 (j + 1) = b2 → b2 ≤ 31 → ∃ i b : Nat, i + g = 31 ∧ Value.int .i64 ((j : Int) + 1 + 1) = .int .i64 ((i : Int) + 1) ∧ Value.int .i64 (b2 : Int) = .int .i64 b ∧ b ≤ 31 ∧ Hid (b = bestUp t 0 i) ∧ ProgP w2 w.heap.size t ∧ Below w.heap.size w w2) :=
        Lib.hid fun b2 w2 hb2 h1 h2 => ⟨j + 1, b2, by omega, by go_num, rfl, h2, Lib.hid h1.symm, HR.out.below hb2, HBR.out.trans (hb2.mono HBR.out.size)⟩
      obtain ⟨p, hp⟩ : ∃ p, t.pend (j + 1) = p := ⟨_, rfl⟩
      obtain ⟨q, hq⟩ : ∃ q, t.on (j + 1) 0 = q := ⟨_, rfl⟩
      have HN2 := HN.out
      rw [hp, hq] at HN2
      replace HN := Lib.hid HN2
      have HB0 : Hid (∀ w, Calls Tryd.prog 30 #[.int .u32 (bits32 t.pend), .int .i64 ((j : Int) + 1)] w fun e w' => e = .returned (.bool p) ∧ w = w') := Lib.hid fun w => by
        have h := bitQ t.pend (j + 1) hj2 p hp w
        rw [show ((j + 1 : Nat) : Int) = (j : Int) + 1 by omega] at h
        exact h
      have HB1 : Hid (∀ w, Calls Tryd.prog 30 #[.int .u32 (bits32 fun s => t.on s 0), .int .i64 ((j : Int) + 1)] w fun e w' => e = .returned (.bool q) ∧ w = w') := Lib.hid fun w => by
        have h := bitQ (fun s => t.on s 0) (j + 1) hj2 q hq w
        rw [show ((j + 1 : Nat) : Int) = (j : Int) + 1 by omega] at h
        exact h
      clear hp hq HN2 hR
      go_wp2_with fail
      go_quiet (fail)
      have HW : Hid (Below wr.heap.size wr (wr.drewN nq)) := Lib.hid (below_drewN (Below.refl _ _) nq)
      generalize wr.drewN nq = wq at *
      clear kp ko
      go_wp2
      go_loopg [23] 2 (fun g2 i wy => ∃ k : Nat, k + g2 = 2 ∧ i = .int .i64 k ∧ Hid ((1 ≤ k → p = true) ∧ (2 ≤ k → q = true)) ∧ wq = wy)
      case atStart => exact ⟨0, by omega, rfl, Lib.hid ⟨fun h => by omega, fun h => by omega⟩, rfl⟩
      case round =>
        obtain ⟨k, hk, rfl, HK, rfl⟩ := hrel
        have hkk : k = 0 ∨ k = 1 ∨ k = 2 := by omega
        rcases hkk with rfl | rfl | rfl
        · have P0 := pair_0
          obtain ⟨gk, rfl⟩ : ∃ x, gk = x + 1 := ⟨1, by omega⟩
          cases p with
          | false =>
            have HNE : Hid (bestUp t 0 (j + 1) = b) := Lib.hid (by rw [HN.out]; simp)
            clear HK
            go_wp2_with fail
            clear P0
            (with_reducible refine (HB0.out _).mono ?_)
            rintro e w' ⟨rfl, rfl⟩
            go_wp2
            go_roundg g
            case measure => omega
            case rel => exact END.out b _ HW.out HNE.out hb31
          | true =>
            clear HK
            go_wp2_with fail
            clear P0
            (with_reducible refine (HB0.out _).mono ?_)
            rintro e w' ⟨rfl, rfl⟩
            go_wp2
            go_roundg gk
            case measure => omega
            case rel => exact ⟨1, by omega, rfl, Lib.hid ⟨fun _ => by simp, fun h => by omega⟩, rfl⟩
        · have P1 := pair_1
          obtain ⟨gk, rfl⟩ : ∃ x, gk = x + 1 := ⟨0, by omega⟩
          obtain rfl : p = true := HK.out.1 (by omega)
          cases q with
          | false =>
            have HNE : Hid (bestUp t 0 (j + 1) = b) := Lib.hid (by rw [HN.out]; simp)
            clear HK
            go_wp2_with fail
            clear P1
            (with_reducible refine (HB1.out _).mono ?_)
            rintro e w' ⟨rfl, rfl⟩
            go_wp2
            go_roundg g
            case measure => omega
            case rel => exact END.out b _ HW.out HNE.out hb31
          | true =>
            clear HK
            go_wp2_with fail
            clear P1
            (with_reducible refine (HB1.out _).mono ?_)
            rintro e w' ⟨rfl, rfl⟩
            go_wp2
            go_roundg gk
            case measure => omega
            case rel => exact ⟨2, by omega, rfl, Lib.hid ⟨fun _ => by simp, fun _ => by simp⟩, rfl⟩
        · obtain rfl : p = true := HK.out.1 (by omega)
          obtain rfl : q = true := HK.out.2 (by omega)
          obtain rfl : gk = 0 := by omega
          have hR2 := HR.out.below HW.out
          have k1 : wq.cell? ⟨w.heap.size, 3 + (j + 1), none⟩ = some (.int .u8 (t.prio (j + 1))) := hR2.prio_ (by omega)
          have kb : wq.cell? ⟨w.heap.size, 3 + b, none⟩ = some (.int .u8 (t.prio b)) := hR2.prio_ (by omega)
          have HW2 : Hid (∀ n, Below wr.heap.size wr (wq.drewN n)) := Lib.hid fun n => below_drewN HW.out n
          obtain ⟨x, hx⟩ : ∃ x, t.prio (j + 1) = x := ⟨_, rfl⟩
          obtain ⟨y, hy⟩ : ∃ y, t.prio b = y := ⟨_, rfl⟩
          have HN2 := HN.out
          rw [hx, hy] at HN2
          replace HN := Lib.hid HN2
          rw [hx] at k1
          rw [hy] at kb
          clear hx hy HN2 HK hR2
          by_cases hyx : y < x
          · have HNE : Hid (bestUp t 0 (j + 1) = j + 1) := Lib.hid (by rw [HN.out, decide_eq_true hyx]; simp)
            go_wp2_with fail
            go_quiet (fail)
            go_wp2
            go_roundg g
            case measure => omega
            case rel => exact END.out (j + 1) _ (HW2.out _) HNE.out (by omega)
          · have hyd : decide (y < x) = false := decide_eq_false hyx
            have HNE : Hid (bestUp t 0 (j + 1) = b) := Lib.hid (by rw [HN.out, hyd]; simp)
            clear hyx
            go_wp2_with fail
            go_quiet (fail)
            go_wp2
            go_roundg g
            case measure => omega
            case rel => exact END.out b _ (HW2.out _) HNE.out hb31

set_option maxRecDepth 100000 in
set_option maxHeartbeats 4000000 in
theorem best_1 (w : World) (t : PS) (ok : t.ok) : Calls Tryd.prog 13 #[progPV t, .int .i64 1] w fun e w' => e = .returned (.int .i64 (bestUp t 1 31)) ∧ Below w.heap.size w w' := by
  have HP := Lib.hid (progP_boxed w ok)
  have HB := Lib.hid ((Below.refl w.heap.size w).alloc (Nat.le_refl _) (.cells (varr 39 (cellQ t)) 27))
  have HC : Hid (isC 1 = true) := Lib.hid (by decide)
  show Calls Tryd.prog 13 #[.agg (varr 39 (cellQ t)), .int .i64 1] w _
  generalize varr 39 (cellQ t) = row at *
  go_enter Tryd.func13, Tryd.ntmps13
  go_wp2
  go_step3
  go_wp2_with fail
  (with_reducible refine (isContext_any _ _).mono ?_)
  rintro e w' ⟨rfl, rfl⟩
  rw [HC.out]
  go_wp2
  go_step3
  go_wp2
  generalize w.alloc (.cells row 27) = w1 at *
  go_loopg [5, 6] 31 (fun g bb ii wr => ∃ j b : Nat, j + g = 31 ∧ ii = .int .i64 ((j : Int) + 1) ∧ bb = .int .i64 b ∧ b ≤ 31 ∧ Hid (b = bestUp t 1 j) ∧ ProgP wr w.heap.size t ∧ Below w.heap.size w wr)
  case atStart => exact ⟨0, 0, by omega, rfl, rfl, by omega, Lib.hid rfl, HP.out, HB.out⟩
  case round =>
    obtain ⟨j, b, hj, rfl, rfl, hb31, HBE, hR, hbr⟩ := hrel
    have HR := Lib.hid hR
    have HBR := Lib.hid hbr
    clear hbr
    cases gk with
    | zero =>
      obtain rfl : j = 31 := by omega
      have HE := Lib.hid HBE.out
      clear hR
      go_wp2
      try rw [Exit.noGoto_ret]
      go_ret
      exact ⟨by rw [HE.out]; rfl, HBR.out⟩
    | succ g =>
      have hj2 : j + 1 < 32 := by omega
      have i1 : (j : Int) + 1 < 32 := by omega
      have i0 : (0 : Int) ≤ (j : Int) + 1 := by omega
      have ib : (b : Int) < 32 := by omega
      have hwj : IntKind.i64.wrap ((j : Int) + 1 + 1) = (j : Int) + 1 + 1 := IntWalk.i64_in _ (by omega)
      have kp : wr.cell? ⟨w.heap.size, 1, none⟩ = some (.int .u32 (bits32 t.pend)) := hR.pend_
      have ko : wr.cell? ⟨w.heap.size, 35 + 1, none⟩ = some (.int .u32 (bits32 fun s => t.on s 1)) := hR.on_ (c := 1) (by omega)
      have HN := Lib.hid (bestUp_step t HBE.out)
      have END : Hid (∀ (b2 : Nat) (w2 : World), Below wr.heap.size wr w2 → bestUp t 1 (j + 1) = b2 → b2 ≤ 31 → ∃ i b : Nat, i + g = 31 ∧ Value.int .i64 ((j : Int) + 1 + 1) = .int .i64 ((i : Int) + 1) ∧ Value.int .i64 (b2 : Int) = .int .i64 b ∧ b ≤ 31 ∧ Hid (b = bestUp t 1 i) ∧ ProgP w2 w.heap.size t ∧ Below w.heap.size w w2) :=
        Lib.hid fun b2 w2 hb2 h1 h2 => ⟨j + 1, b2, by omega, by go_num, rfl, h2, Lib.hid h1.symm, HR.out.below hb2, HBR.out.trans (hb2.mono HBR.out.size)⟩
      obtain ⟨p, hp⟩ : ∃ p, t.pend (j + 1) = p := ⟨_, rfl⟩
      obtain ⟨q, hq⟩ : ∃ q, t.on (j + 1) 1 = q := ⟨_, rfl⟩
      have HN2 := HN.out
      rw [hp, hq] at HN2
      replace HN := Lib.hid HN2
      have HB0 : Hid (∀ w, Calls Tryd.prog 30 #[.int .u32 (bits32 t.pend), .int .i64 ((j : Int) + 1)] w fun e w' => e = .returned (.bool p) ∧ w = w') := Lib.hid fun w => by
        have h := bitQ t.pend (j + 1) hj2 p hp w
        rw [show ((j + 1 : Nat) : Int) = (j : Int) + 1 by omega] at h
        exact h
      have HB1 : Hid (∀ w, Calls Tryd.prog 30 #[.int .u32 (bits32 fun s => t.on s 1), .int .i64 ((j : Int) + 1)] w fun e w' => e = .returned (.bool q) ∧ w = w') := Lib.hid fun w => by
        have h := bitQ (fun s => t.on s 1) (j + 1) hj2 q hq w
        rw [show ((j + 1 : Nat) : Int) = (j : Int) + 1 by omega] at h
        exact h
      clear hp hq HN2 hR
      go_wp2_with fail
      go_quiet (fail)
      have HW : Hid (Below wr.heap.size wr (wr.drewN nq)) := Lib.hid (below_drewN (Below.refl _ _) nq)
      generalize wr.drewN nq = wq at *
      clear kp ko
      go_wp2
      go_loopg [23] 2 (fun g2 i wy => ∃ k : Nat, k + g2 = 2 ∧ i = .int .i64 k ∧ Hid ((1 ≤ k → p = true) ∧ (2 ≤ k → q = true)) ∧ wq = wy)
      case atStart => exact ⟨0, by omega, rfl, Lib.hid ⟨fun h => by omega, fun h => by omega⟩, rfl⟩
      case round =>
        obtain ⟨k, hk, rfl, HK, rfl⟩ := hrel
        have hkk : k = 0 ∨ k = 1 ∨ k = 2 := by omega
        rcases hkk with rfl | rfl | rfl
        · have P0 := pair_0
          obtain ⟨gk, rfl⟩ : ∃ x, gk = x + 1 := ⟨1, by omega⟩
          cases p with
          | false =>
            have HNE : Hid (bestUp t 1 (j + 1) = b) := Lib.hid (by rw [HN.out]; simp)
            clear HK
            go_wp2_with fail
            clear P0
            (with_reducible refine (HB0.out _).mono ?_)
            rintro e w' ⟨rfl, rfl⟩
            go_wp2
            go_roundg g
            case measure => omega
            case rel => exact END.out b _ HW.out HNE.out hb31
          | true =>
            clear HK
            go_wp2_with fail
            clear P0
            (with_reducible refine (HB0.out _).mono ?_)
            rintro e w' ⟨rfl, rfl⟩
            go_wp2
            go_roundg gk
            case measure => omega
            case rel => exact ⟨1, by omega, rfl, Lib.hid ⟨fun _ => by simp, fun h => by omega⟩, rfl⟩
        · have P1 := pair_1
          obtain ⟨gk, rfl⟩ : ∃ x, gk = x + 1 := ⟨0, by omega⟩
          obtain rfl : p = true := HK.out.1 (by omega)
          cases q with
          | false =>
            have HNE : Hid (bestUp t 1 (j + 1) = b) := Lib.hid (by rw [HN.out]; simp)
            clear HK
            go_wp2_with fail
            clear P1
            (with_reducible refine (HB1.out _).mono ?_)
            rintro e w' ⟨rfl, rfl⟩
            go_wp2
            go_roundg g
            case measure => omega
            case rel => exact END.out b _ HW.out HNE.out hb31
          | true =>
            clear HK
            go_wp2_with fail
            clear P1
            (with_reducible refine (HB1.out _).mono ?_)
            rintro e w' ⟨rfl, rfl⟩
            go_wp2
            go_roundg gk
            case measure => omega
            case rel => exact ⟨2, by omega, rfl, Lib.hid ⟨fun _ => by simp, fun _ => by simp⟩, rfl⟩
        · obtain rfl : p = true := HK.out.1 (by omega)
          obtain rfl : q = true := HK.out.2 (by omega)
          obtain rfl : gk = 0 := by omega
          have hR2 := HR.out.below HW.out
          have k1 : wq.cell? ⟨w.heap.size, 3 + (j + 1), none⟩ = some (.int .u8 (t.prio (j + 1))) := hR2.prio_ (by omega)
          have kb : wq.cell? ⟨w.heap.size, 3 + b, none⟩ = some (.int .u8 (t.prio b)) := hR2.prio_ (by omega)
          have HW2 : Hid (∀ n, Below wr.heap.size wr (wq.drewN n)) := Lib.hid fun n => below_drewN HW.out n
          obtain ⟨x, hx⟩ : ∃ x, t.prio (j + 1) = x := ⟨_, rfl⟩
          obtain ⟨y, hy⟩ : ∃ y, t.prio b = y := ⟨_, rfl⟩
          have HN2 := HN.out
          rw [hx, hy] at HN2
          replace HN := Lib.hid HN2
          rw [hx] at k1
          rw [hy] at kb
          clear hx hy HN2 HK hR2
          by_cases hyx : y < x
          · have HNE : Hid (bestUp t 1 (j + 1) = j + 1) := Lib.hid (by rw [HN.out, decide_eq_true hyx]; simp)
            go_wp2_with fail
            go_quiet (fail)
            go_wp2
            go_roundg g
            case measure => omega
            case rel => exact END.out (j + 1) _ (HW2.out _) HNE.out (by omega)
          · have hyd : decide (y < x) = false := decide_eq_false hyx
            have HNE : Hid (bestUp t 1 (j + 1) = b) := Lib.hid (by rw [HN.out, hyd]; simp)
            clear hyx
            go_wp2_with fail
            go_quiet (fail)
            go_wp2
            go_roundg g
            case measure => omega
            case rel => exact END.out b _ (HW2.out _) HNE.out hb31

end Go.Proofs.YtgimnkablodheaaDoor
