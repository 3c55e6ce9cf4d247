/- Layer 5: the document's plic by value: Best at any context; Line. -/
import Derived.Test.YtgimnkablodheaaDoorPlD
namespace Go.Proofs.YtgimnkablodheaaDoor
open Go.RowKit
set_option linter.unusedVariables false

theorem refBest_none (w : World) (t : PS) (c : Int) (h0 : ¬ c = 0) (h1 : ¬ c = 1) : Calls Tryd.prog 16 #[refPV t, .int .i64 c] w fun e w' => e = .returned (.int .i64 0) ∧ Below w.heap.size w w' := by
  have e0 : (c != 0) = true := by simpa using h0
  have e1 : (c != 1) = true := by simpa using h1
  clear h0 h1
  show Calls Tryd.prog 16 #[.agg (varr 194 (cellR t)), .int .i64 c] w _
  generalize varr 194 (cellR t) = row at *
  go_enter Tryd.func16, Tryd.ntmps16
  go_wp2
  go_ret
  exact ⟨rfl, (Below.refl _ _).alloc (Nat.le_refl _) _⟩
theorem refBest_any (w : World) (t : PS) (c : Int) : Calls Tryd.prog 16 #[refPV t, .int .i64 c] w fun e w' => e = .returned (.int .i64 (bestC t c)) ∧ Below w.heap.size w w' := by
  by_cases h0 : c = 0
  · subst h0; exact refBest_0 w t
  by_cases h1 : c = 1
  · subst h1; exact refBest_1 w t
  have e : bestC t c = 0 := by unfold bestC; rw [if_neg (by omega)]
  rw [e]; exact refBest_none w t c h0 h1
/-- What Line tells. -/
def lineC (t : PS) (c : Int) : Bool := decide (0 < bestC t c) && decide (t.floor c.toNat < t.prio (bestC t c))
theorem size_refP : (Tryd.prog.info? 45).map (·.size) = some 194 := by kernel_rfl

set_option maxHeartbeats 2000000 in
theorem refLine_0 (w : World) (t : PS) : Calls Tryd.prog 17 #[refPV t, .int .i64 0] w fun e w' => e = .returned (.bool (lineC t 0)) ∧ Below w.heap.size w w' := by
  have hle : bestC t 0 ≤ 31 := by unfold bestC; rw [if_pos (by decide)]; exact bestTo_le _ _ _
  have HLC : Hid (lineC t 0 = (decide (0 < bestC t 0) && decide (t.floor 0 < t.prio (bestC t 0)))) := Lib.hid rfl
  have HB := Lib.hid ((Below.refl w.heap.size w).alloc (Nat.le_refl _) (.cells (varr 194 (cellR t)) 45))
  have HP := Lib.hid (refP_boxed w t)
  have hsz : (varr 194 (cellR t)).size = 194 := varr_size _ _
  have HSZ := Lib.hid hsz
  have HBEST := Lib.hid (fun w' => refBest_any w' t 0)
  unfold refPV at HBEST
  clear hsz
  show Calls Tryd.prog 17 #[.agg (varr 194 (cellR t)), .int .i64 0] w _
  have HR : Hid ((w.alloc (.cells (varr 194 (cellR t)) 45)).heap[w.heap.size]? = some (.cells (varr 194 (cellR t)) 45 (0, 0))) := Lib.hid (heap_alloc_new w _)
  generalize varr 194 (cellR t) = row at *
  go_enter Tryd.func17, Tryd.ntmps17
  go_wp2_with (refine wpList_load_row rfl _ _ rfl w.heap.size rfl 45 _ _ _ HR.out Tryd.underlying45 rfl ?_ ?_; · exact size_refP.trans (by rw [HSZ.out]))
  refine (HBEST.out _).mono ?_
  rintro e w2 ⟨rfl, hb⟩
  have HB2 := Lib.hid (HB.out.trans (hb.mono HB.out.size))
  replace HP := Lib.hid (HP.out.below hb)
  clear hb
  generalize bestC t 0 = b at *
  have ib : (b : Int) < 32 := by omega
  have kb : w2.cell? ⟨w.heap.size, b * 6, none⟩ = some (.int .u64 (t.prio b)) := HP.out.src (s := b) (j := 0) (by omega) (by omega)
  have kf : w2.cell? ⟨w.heap.size, 192, none⟩ = some (.int .u64 (t.floor 0)) := HP.out.floor_ (c := 0) (by omega)
  obtain ⟨x, hx⟩ : ∃ x, t.prio b = x := ⟨_, rfl⟩
  obtain ⟨y, hy⟩ : ∃ y, t.floor 0 = y := ⟨_, rfl⟩
  rw [hx] at kb
  rw [hy] at kf
  rw [hx, hy] at HLC
  clear hx hy HBEST HR
  by_cases hb0 : b = 0
  · subst hb0
    have HE : Hid (false = lineC t 0) := by refine Lib.hid ?_; rw [HLC.out]; simp
    go_wp2_with fail
    go_quiet (fail)
    go_wp2
    go_ret
    exact ⟨by rw [← HE.out]; rfl, ⟨HB2.out.os, HB2.out.tape, HB2.out.output, HB2.out.size, HB2.out.block⟩⟩
  · have hb1 : (0 : Int) < (b : Int) := by omega
    have hb2 : 0 < b := by omega
    by_cases hyx : y < x
    · have HE : Hid (true = lineC t 0) := by refine Lib.hid ?_; rw [HLC.out]; simp [hb2, hyx]
      go_wp2_with fail
      go_quiet (fail)
      go_wp2
      go_ret
      exact ⟨by rw [← HE.out]; rfl, ⟨HB2.out.os, HB2.out.tape, HB2.out.output, HB2.out.size, HB2.out.block⟩⟩
    · have hyd : decide (y < x) = false := decide_eq_false hyx
      have HE : Hid (false = lineC t 0) := by refine Lib.hid ?_; rw [HLC.out, hyd]; simp
      clear hyx
      go_wp2_with fail
      go_quiet (fail)
      go_wp2
      go_ret
      exact ⟨by rw [← HE.out]; rfl, ⟨HB2.out.os, HB2.out.tape, HB2.out.output, HB2.out.size, HB2.out.block⟩⟩

set_option maxHeartbeats 2000000 in
theorem refLine_1 (w : World) (t : PS) : Calls Tryd.prog 17 #[refPV t, .int .i64 1] w fun e w' => e = .returned (.bool (lineC t 1)) ∧ Below w.heap.size w w' := by
  have hle : bestC t 1 ≤ 31 := by unfold bestC; rw [if_pos (by decide)]; exact bestTo_le _ _ _
  have HLC : Hid (lineC t 1 = (decide (0 < bestC t 1) && decide (t.floor 1 < t.prio (bestC t 1)))) := Lib.hid rfl
  have HB := Lib.hid ((Below.refl w.heap.size w).alloc (Nat.le_refl _) (.cells (varr 194 (cellR t)) 45))
  have HP := Lib.hid (refP_boxed w t)
  have hsz : (varr 194 (cellR t)).size = 194 := varr_size _ _
  have HSZ := Lib.hid hsz
  have HBEST := Lib.hid (fun w' => refBest_any w' t 1)
  unfold refPV at HBEST
  clear hsz
  show Calls Tryd.prog 17 #[.agg (varr 194 (cellR t)), .int .i64 1] w _
  have HR : Hid ((w.alloc (.cells (varr 194 (cellR t)) 45)).heap[w.heap.size]? = some (.cells (varr 194 (cellR t)) 45 (0, 0))) := Lib.hid (heap_alloc_new w _)
  generalize varr 194 (cellR t) = row at *
  go_enter Tryd.func17, Tryd.ntmps17
  go_wp2_with (refine wpList_load_row rfl _ _ rfl w.heap.size rfl 45 _ _ _ HR.out Tryd.underlying45 rfl ?_ ?_; · exact size_refP.trans (by rw [HSZ.out]))
  refine (HBEST.out _).mono ?_
  rintro e w2 ⟨rfl, hb⟩
  have HB2 := Lib.hid (HB.out.trans (hb.mono HB.out.size))
  replace HP := Lib.hid (HP.out.below hb)
  clear hb
  generalize bestC t 1 = b at *
  have ib : (b : Int) < 32 := by omega
  have kb : w2.cell? ⟨w.heap.size, b * 6, none⟩ = some (.int .u64 (t.prio b)) := HP.out.src (s := b) (j := 0) (by omega) (by omega)
  have kf : w2.cell? ⟨w.heap.size, 192 + 1, none⟩ = some (.int .u64 (t.floor 1)) := HP.out.floor_ (c := 1) (by omega)
  obtain ⟨x, hx⟩ : ∃ x, t.prio b = x := ⟨_, rfl⟩
  obtain ⟨y, hy⟩ : ∃ y, t.floor 1 = y := ⟨_, rfl⟩
  rw [hx] at kb
  rw [hy] at kf
  rw [hx, hy] at HLC
  clear hx hy HBEST HR
  by_cases hb0 : b = 0
  · subst hb0
    have HE : Hid (false = lineC t 1) := by refine Lib.hid ?_; rw [HLC.out]; simp
    go_wp2_with fail
    go_quiet (fail)
    go_wp2
    go_ret
    exact ⟨by rw [← HE.out]; rfl, ⟨HB2.out.os, HB2.out.tape, HB2.out.output, HB2.out.size, HB2.out.block⟩⟩
  · have hb1 : (0 : Int) < (b : Int) := by omega
    have hb2 : 0 < b := by omega
    by_cases hyx : y < x
    · have HE : Hid (true = lineC t 1) := by refine Lib.hid ?_; rw [HLC.out]; simp [hb2, hyx]
      go_wp2_with fail
      go_quiet (fail)
      go_wp2
      go_ret
      exact ⟨by rw [← HE.out]; rfl, ⟨HB2.out.os, HB2.out.tape, HB2.out.output, HB2.out.size, HB2.out.block⟩⟩
    · have hyd : decide (y < x) = false := decide_eq_false hyx
      have HE : Hid (false = lineC t 1) := by refine Lib.hid ?_; rw [HLC.out, hyd]; simp
      clear hyx
      go_wp2_with fail
      go_quiet (fail)
      go_wp2
      go_ret
      exact ⟨by rw [← HE.out]; rfl, ⟨HB2.out.os, HB2.out.tape, HB2.out.output, HB2.out.size, HB2.out.block⟩⟩

end Go.Proofs.YtgimnkablodheaaDoor
