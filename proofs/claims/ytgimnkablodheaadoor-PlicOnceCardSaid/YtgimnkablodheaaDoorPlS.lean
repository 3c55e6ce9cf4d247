/- Layer 5: the program's Best at any context, Line, claim, New. -/
import Derived.Test.YtgimnkablodheaaDoorPlR
import Derived.Deep.RegionHeld3
import Derived.Test.YtgimnkablodheaaDoorDrive
namespace Go.Proofs.YtgimnkablodheaaDoor
open Go.RowKit
set_option linter.unusedVariables false

theorem isC_no {c : Int} (h0 : ¬ c = 0) (h1 : ¬ c = 1) : isC c = false := by unfold isC; rw [decide_eq_false_iff_not]; omega
theorem best_none (w : World) (t : PS) (c : Int) (hc : isC c = false) : Calls Tryd.prog 13 #[progPV t, .int .i64 c] w fun e w' => e = .returned (.int .i64 0) ∧ Below w.heap.size w w' := by
  have HC := Lib.hid hc
  clear hc
  show Calls Tryd.prog 13 #[.agg (varr 39 (cellQ t)), .int .i64 c] w _
  generalize varr 39 (cellQ t) = row at *
  go_enter Tryd.func13, Tryd.ntmps13
  go_wp2
  go_step3
  go_wp2_with fail
  (with_reducible refine (isContext_any _ _).mono ?_)
  rintro e w' ⟨rfl, rfl⟩
  rw [HC.out]
  go_wp2
  try rw [Exit.noGoto_ret]
  go_ret
  exact ⟨rfl, (Below.refl _ _).alloc (Nat.le_refl _) _⟩
theorem best_any (w : World) (t : PS) (ok : t.ok) (c : Int) : Calls Tryd.prog 13 #[progPV t, .int .i64 c] w fun e w' => e = .returned (.int .i64 (bestC t c)) ∧ Below w.heap.size w w' := by
  by_cases h0 : c = 0
  · subst h0
    have h := best_0 w t ok
    rw [bestUp_is t 0 ok.prio0] at h; exact h
  by_cases h1 : c = 1
  · subst h1
    have h := best_1 w t ok
    rw [bestUp_is t 1 ok.prio0] at h; exact h
  have e : bestC t c = 0 := by unfold bestC; rw [if_neg (by omega)]
  rw [e]; exact best_none w t c (isC_no h0 h1)
theorem size_progP : (Tryd.prog.info? 27).map (·.size) = some 39 := by kernel_rfl
/-- Whether a context's line is up. -/
def lineT (t : PS) (c : Int) : Bool := isC c && lineC t c
theorem line_no (w : World) (t : PS) (c : Int) (hc : isC c = false) : Calls Tryd.prog 11 #[progPV t, .int .i64 c] w fun e w' => e = .returned (.bool (lineT t c)) ∧ Below w.heap.size w w' := by
  have HC := Lib.hid hc
  have HE : Hid (lineT t c = false) := Lib.hid (by unfold lineT; rw [hc]; rfl)
  clear hc
  rw [HE.out]
  show Calls Tryd.prog 11 #[.agg (varr 39 (cellQ t)), .int .i64 c] w _
  generalize varr 39 (cellQ t) = row at *
  go_enter Tryd.func11, Tryd.ntmps11
  go_wp2_with fail
  have HB := Lib.hid ((Below.refl w.heap.size w).alloc (Nat.le_refl _) (.cells row 27))
  generalize w.alloc (.cells row 27) = w1 at *
  go_quiet ((go_at_call 28; exact Calls.quiet_of_same ((isContext_any _ _).mono fun e w' h => ⟨h.1.trans (by rw [HC.out]), h.2.symm⟩)))
  go_wp2
  go_ret
  exact ⟨rfl, below_drewN HB.out _⟩
theorem run_progRow {w : World} {b : Nat} {row : Array Value} (h : w.heap[b]? = some (.cells row 27 (0, 0))) (hs : row.size = 39) : (loadVar 27 ⟨b, 0, none⟩).run Tryd.prog w = .ok (.agg row) w :=
  run_loadVar_row w b 27 27 row (0, 0) _ h Tryd.underlying27 rfl (size_progP.trans (by rw [hs]))
theorem bestC_0 (t : PS) (c : Nat) (hc : c < 2) (h0 : t.prio 0 = 0) : lineC t c = decide (t.floor c < t.prio (bestC t c)) ∨ ¬ (0 ≤ t.floor c) := by
  by_cases hf : 0 ≤ t.floor c
  · left
    unfold lineC
    by_cases hb : bestC t c = 0
    · rw [hb, h0, decide_eq_false (by omega), Bool.false_and, decide_eq_false (by omega)]
    · rw [decide_eq_true (by omega), Bool.true_and]; rfl
  · exact .inr hf
set_option maxHeartbeats 2000000 in
theorem line_0 (w : World) (t : PS) (ok : t.ok) : Calls Tryd.prog 11 #[progPV t, .int .i64 0] w fun e w' => e = .returned (.bool (lineT t 0)) ∧ Below w.heap.size w w' := by
  have HC : Hid (isC 0 = true) := Lib.hid (by decide)
  have HE : Hid (lineT t 0 = decide (t.floor 0 < t.prio (bestC t 0))) := Lib.hid (by
    unfold lineT; rw [HC.out, Bool.true_and]; rcases bestC_0 t 0 (by omega) ok.prio0 with h | h; exact h; exact absurd (ok.fl 0).1 h)
  rw [HE.out]
  have hle := bestC_le t 0
  have hbest := fun w' => best_any w' t ok 0
  have HP := Lib.hid (progP_boxed w ok)
  have HB := Lib.hid ((Below.refl w.heap.size w).alloc (Nat.le_refl _) (.cells (varr 39 (cellQ t)) 27))
  have hrow : (w.alloc (.cells (varr 39 (cellQ t)) 27)).heap[w.heap.size]? = some (.cells (varr 39 (cellQ t)) 27 (0, 0)) := heap_alloc_new w _
  have hsz : (varr 39 (cellQ t)).size = 39 := varr_size _ _
  unfold progPV at hbest
  show Calls Tryd.prog 11 #[.agg (varr 39 (cellQ t)), .int .i64 0] w _
  have HROW := Lib.hid hrow
  have HSZ := Lib.hid hsz
  clear hrow hsz
  generalize varr 39 (cellQ t) = row at *
  generalize bestC t 0 = k at *
  have HBEST := Lib.hid hbest
  have ik : (k : Int) < 32 := by omega
  clear hbest
  go_enter Tryd.func11, Tryd.ntmps11
  go_wp2_with fail
  have hw1 : w.heap.size < (w.alloc (.cells row 27)).heap.size := by rw [World.size_alloc]; omega
  generalize w.alloc (.cells row 27) = w1 at *
  have HF : Hid (∀ wx, Below w1.heap.size w1 wx → wx.cell? ⟨w.heap.size, 37, none⟩ = some (.int .u8 (t.floor 0))) := Lib.hid fun wx hx => (HP.out.below hx).floor_ (c := 0) (by omega)
  have HK : Hid (∀ wx, Below w1.heap.size w1 wx → wx.cell? ⟨w.heap.size, 3 + k, none⟩ = some (.int .u8 (t.prio k))) := Lib.hid fun wx hx => (HP.out.below hx).prio_ (by omega)
  refine wp_region_held_drew (S := fun wx => Below w1.heap.size w1 wx) (by kernel_rfl) (Below.refl _ _).drew (fun hHeld0 => ?_)
  have HS := Lib.hid hHeld0
  clear hHeld0
  refine takeD (i := 0) (some 5) (v := ?_) rfl rfl (by kernel_rfl) (by kernel_rfl) (by kernel_rfl) (fun _ _ _ h => h) (by rfl) HS.out ?_ ?_
  rotate_left
  · intro wx hSx
    clear hSx
    go_simp
    try (with_reducible rfl)
  simp only [Act.put, List.setIfInBounds_toArray, List.set_cons_zero, List.set_cons_succ]
  refine wpAnyH_ready (rs := [1]) (by kernel_rfl) (by simp) ?_
  refine AllReadyH.cons rfl (fun K hK => ?_) AllReadyH.nil
  go_simp
  (with_reducible refine (isContext_any _ _).mono ?_)
  rintro e w' ⟨rfl, rfl⟩
  rw [HC.out]
  go_simp
  refine hK.out _ _ ?_ (fun hHeld => ?_)
  · exact HS.out
  clear hHeld hK K
  try simp only [Act.put, List.setIfInBounds_toArray, List.set_cons_zero, List.set_cons_succ]
  refine takeD (i := 2) (some 7) (v := ?_) rfl rfl (by kernel_rfl) (by kernel_rfl) (by kernel_rfl) (fun _ _ _ h => h) (by rfl) HS.out ?_ ?_
  rotate_left
  · intro wx hSx
    clear hSx
    go_simp
    try (with_reducible rfl)
  simp only [Act.put, List.setIfInBounds_toArray, List.set_cons_zero, List.set_cons_succ]
  refine takeD (i := 3) (some 8) (v := ?_) rfl rfl (by kernel_rfl) (by kernel_rfl) (by kernel_rfl) (fun _ _ _ h => h) (by rfl) HS.out ?_ ?_
  rotate_left
  · intro wx hSx
    exact (by refine yield_row _ (.tmp 2) ?_ w.heap.size ?_ (run_progRow ((hSx.block _ hw1).trans HROW.out) HSZ.out) <;> rfl)
  simp only [Act.put, List.setIfInBounds_toArray, List.set_cons_zero, List.set_cons_succ]
  refine takeD (i := 4) (some 9) (v := ?_) rfl rfl (by kernel_rfl) (by kernel_rfl) (by kernel_rfl) (fun _ _ _ h => h) (by rfl) HS.out ?_ ?_
  rotate_left
  · intro wx hSx
    clear hSx
    go_simp
    try (with_reducible rfl)
  simp only [Act.put, List.setIfInBounds_toArray, List.set_cons_zero, List.set_cons_succ]
  refine takeD (i := 6) (some 11) (v := ?_) rfl rfl (by kernel_rfl) (by kernel_rfl) (by kernel_rfl) (fun _ _ _ h => h) (by rfl) HS.out ?_ ?_
  rotate_left
  · intro wx hSx
    clear hSx
    go_simp
    try (with_reducible rfl)
  simp only [Act.put, List.setIfInBounds_toArray, List.set_cons_zero, List.set_cons_succ]
  refine takeD (i := 9) (some 14) (v := ?_) rfl rfl (by kernel_rfl) (by kernel_rfl) (by kernel_rfl) (fun _ _ _ h => h) (by rfl) HS.out ?_ ?_
  rotate_left
  · intro wx hSx
    clear hSx
    go_simp
    try (with_reducible rfl)
  simp only [Act.put, List.setIfInBounds_toArray, List.set_cons_zero, List.set_cons_succ]
  refine takeD (i := 10) (some 15) (v := ?_) rfl rfl (by kernel_rfl) (by kernel_rfl) (by kernel_rfl) (fun _ _ _ h => h) (by rfl) HS.out ?_ ?_
  rotate_left
  · intro wx hSx
    clear hSx
    go_simp
    try (with_reducible rfl)
  simp only [Act.put, List.setIfInBounds_toArray, List.set_cons_zero, List.set_cons_succ]
  refine takeD (i := 11) (some 16) (v := ?_) rfl rfl (by kernel_rfl) (by kernel_rfl) (by kernel_rfl) (fun _ _ _ h => h) (by rfl) HS.out ?_ ?_
  rotate_left
  · intro wx hSx
    clear hSx
    go_simp
    try (with_reducible rfl)
  simp only [Act.put, List.setIfInBounds_toArray, List.set_cons_zero, List.set_cons_succ]
  refine takeD (i := 12) (some 17) (v := ?_) rfl rfl (by kernel_rfl) (by kernel_rfl) (by kernel_rfl) (fun _ _ _ h => h) (by rfl) HS.out ?_ ?_
  rotate_left
  · intro wx hSx
    have g1 := HF.out wx hSx
    clear hSx
    go_simp
    try (with_reducible rfl)
  simp only [Act.put, List.setIfInBounds_toArray, List.set_cons_zero, List.set_cons_succ]
  refine wpAnyH_ready (rs := [5]) (by kernel_rfl) (by simp) ?_
  refine AllReadyH.cons rfl (fun K hK => ?_) AllReadyH.nil
  go_simp
  (with_reducible refine (HBEST.out _).mono ?_)
  rintro e w4 ⟨rfl, hb⟩
  have HS4 : Hid (Below w1.heap.size w1 w4) := Lib.hid (HS.out.trans (hb.mono HS.out.size))
  clear hb
  go_simp
  refine hK.out _ _ ?_ (fun hHeld => ?_)
  · exact HS4.out
  clear hHeld hK K
  try simp only [Act.put, List.setIfInBounds_toArray, List.set_cons_zero, List.set_cons_succ]
  replace HS := HS4
  refine takeD (i := 7) (some 12) (v := ?_) rfl rfl (by kernel_rfl) (by kernel_rfl) (by kernel_rfl) (fun _ _ _ h => h) (by rfl) HS.out ?_ ?_
  rotate_left
  · intro wx hSx
    clear hSx
    go_simp
    try (with_reducible rfl)
  simp only [Act.put, List.setIfInBounds_toArray, List.set_cons_zero, List.set_cons_succ]
  refine takeD (i := 8) (some 13) (v := ?_) rfl rfl (by kernel_rfl) (by kernel_rfl) (by kernel_rfl) (fun _ _ _ h => h) (by rfl) HS.out ?_ ?_
  rotate_left
  · intro wx hSx
    have g1 := HK.out wx hSx
    clear hSx
    go_simp
    try (with_reducible rfl)
  simp only [Act.put, List.setIfInBounds_toArray, List.set_cons_zero, List.set_cons_succ]
  refine takeD (i := 13) (some 18) (v := ?_) rfl rfl (by kernel_rfl) (by kernel_rfl) (by kernel_rfl) (fun _ _ _ h => h) (by rfl) HS.out ?_ ?_
  rotate_left
  · intro wx hSx
    clear hSx
    go_simp
    try (with_reducible rfl)
  simp only [Act.put, List.setIfInBounds_toArray, List.set_cons_zero, List.set_cons_succ]
  refine takeD (i := 14) (some 19) (v := ?_) rfl rfl (by kernel_rfl) (by kernel_rfl) (by kernel_rfl) (fun _ _ _ h => h) (by rfl) HS.out ?_ ?_
  rotate_left
  · intro wx hSx
    clear hSx
    go_simp
    try (with_reducible rfl)
  simp only [Act.put, List.setIfInBounds_toArray, List.set_cons_zero, List.set_cons_succ]
  refine takeD (i := 15) (some 4) (v := ?_) rfl rfl (by kernel_rfl) (by kernel_rfl) (by kernel_rfl) (fun _ _ _ h => h) (by rfl) HS.out ?_ ?_
  rotate_left
  · intro wx hSx
    clear hSx
    go_simp
    try (with_reducible rfl)
  simp only [Act.put, List.setIfInBounds_toArray, List.set_cons_zero, List.set_cons_succ]
  refine wpAnyH_done (by kernel_rfl) ?_ _
  go_wp2
  go_ret
  exact ⟨rfl, HB.out.trans (HS.out.mono HB.out.size)⟩

set_option maxHeartbeats 2000000 in
theorem line_1 (w : World) (t : PS) (ok : t.ok) : Calls Tryd.prog 11 #[progPV t, .int .i64 1] w fun e w' => e = .returned (.bool (lineT t 1)) ∧ Below w.heap.size w w' := by
  have HC : Hid (isC 1 = true) := Lib.hid (by decide)
  have HE : Hid (lineT t 1 = decide (t.floor 1 < t.prio (bestC t 1))) := Lib.hid (by
    unfold lineT; rw [HC.out, Bool.true_and]; rcases bestC_0 t 1 (by omega) ok.prio0 with h | h; exact h; exact absurd (ok.fl 1).1 h)
  rw [HE.out]
  have hle := bestC_le t 1
  have hbest := fun w' => best_any w' t ok 1
  have HP := Lib.hid (progP_boxed w ok)
  have HB := Lib.hid ((Below.refl w.heap.size w).alloc (Nat.le_refl _) (.cells (varr 39 (cellQ t)) 27))
  have hrow : (w.alloc (.cells (varr 39 (cellQ t)) 27)).heap[w.heap.size]? = some (.cells (varr 39 (cellQ t)) 27 (0, 0)) := heap_alloc_new w _
  have hsz : (varr 39 (cellQ t)).size = 39 := varr_size _ _
  unfold progPV at hbest
  show Calls Tryd.prog 11 #[.agg (varr 39 (cellQ t)), .int .i64 1] w _
  have HROW := Lib.hid hrow
  have HSZ := Lib.hid hsz
  clear hrow hsz
  generalize varr 39 (cellQ t) = row at *
  generalize bestC t 1 = k at *
  have HBEST := Lib.hid hbest
  have ik : (k : Int) < 32 := by omega
  clear hbest
  go_enter Tryd.func11, Tryd.ntmps11
  go_wp2_with fail
  have hw1 : w.heap.size < (w.alloc (.cells row 27)).heap.size := by rw [World.size_alloc]; omega
  generalize w.alloc (.cells row 27) = w1 at *
  have HF : Hid (∀ wx, Below w1.heap.size w1 wx → wx.cell? ⟨w.heap.size, 37 + 1, none⟩ = some (.int .u8 (t.floor 1))) := Lib.hid fun wx hx => (HP.out.below hx).floor_ (c := 1) (by omega)
  have HK : Hid (∀ wx, Below w1.heap.size w1 wx → wx.cell? ⟨w.heap.size, 3 + k, none⟩ = some (.int .u8 (t.prio k))) := Lib.hid fun wx hx => (HP.out.below hx).prio_ (by omega)
  refine wp_region_held_drew (S := fun wx => Below w1.heap.size w1 wx) (by kernel_rfl) (Below.refl _ _).drew (fun hHeld0 => ?_)
  have HS := Lib.hid hHeld0
  clear hHeld0
  refine takeD (i := 0) (some 5) (v := ?_) rfl rfl (by kernel_rfl) (by kernel_rfl) (by kernel_rfl) (fun _ _ _ h => h) (by rfl) HS.out ?_ ?_
  rotate_left
  · intro wx hSx
    clear hSx
    go_simp
    try (with_reducible rfl)
  simp only [Act.put, List.setIfInBounds_toArray, List.set_cons_zero, List.set_cons_succ]
  refine wpAnyH_ready (rs := [1]) (by kernel_rfl) (by simp) ?_
  refine AllReadyH.cons rfl (fun K hK => ?_) AllReadyH.nil
  go_simp
  (with_reducible refine (isContext_any _ _).mono ?_)
  rintro e w' ⟨rfl, rfl⟩
  rw [HC.out]
  go_simp
  refine hK.out _ _ ?_ (fun hHeld => ?_)
  · exact HS.out
  clear hHeld hK K
  try simp only [Act.put, List.setIfInBounds_toArray, List.set_cons_zero, List.set_cons_succ]
  refine takeD (i := 2) (some 7) (v := ?_) rfl rfl (by kernel_rfl) (by kernel_rfl) (by kernel_rfl) (fun _ _ _ h => h) (by rfl) HS.out ?_ ?_
  rotate_left
  · intro wx hSx
    clear hSx
    go_simp
    try (with_reducible rfl)
  simp only [Act.put, List.setIfInBounds_toArray, List.set_cons_zero, List.set_cons_succ]
  refine takeD (i := 3) (some 8) (v := ?_) rfl rfl (by kernel_rfl) (by kernel_rfl) (by kernel_rfl) (fun _ _ _ h => h) (by rfl) HS.out ?_ ?_
  rotate_left
  · intro wx hSx
    exact (by refine yield_row _ (.tmp 2) ?_ w.heap.size ?_ (run_progRow ((hSx.block _ hw1).trans HROW.out) HSZ.out) <;> rfl)
  simp only [Act.put, List.setIfInBounds_toArray, List.set_cons_zero, List.set_cons_succ]
  refine takeD (i := 4) (some 9) (v := ?_) rfl rfl (by kernel_rfl) (by kernel_rfl) (by kernel_rfl) (fun _ _ _ h => h) (by rfl) HS.out ?_ ?_
  rotate_left
  · intro wx hSx
    clear hSx
    go_simp
    try (with_reducible rfl)
  simp only [Act.put, List.setIfInBounds_toArray, List.set_cons_zero, List.set_cons_succ]
  refine takeD (i := 6) (some 11) (v := ?_) rfl rfl (by kernel_rfl) (by kernel_rfl) (by kernel_rfl) (fun _ _ _ h => h) (by rfl) HS.out ?_ ?_
  rotate_left
  · intro wx hSx
    clear hSx
    go_simp
    try (with_reducible rfl)
  simp only [Act.put, List.setIfInBounds_toArray, List.set_cons_zero, List.set_cons_succ]
  refine takeD (i := 9) (some 14) (v := ?_) rfl rfl (by kernel_rfl) (by kernel_rfl) (by kernel_rfl) (fun _ _ _ h => h) (by rfl) HS.out ?_ ?_
  rotate_left
  · intro wx hSx
    clear hSx
    go_simp
    try (with_reducible rfl)
  simp only [Act.put, List.setIfInBounds_toArray, List.set_cons_zero, List.set_cons_succ]
  refine takeD (i := 10) (some 15) (v := ?_) rfl rfl (by kernel_rfl) (by kernel_rfl) (by kernel_rfl) (fun _ _ _ h => h) (by rfl) HS.out ?_ ?_
  rotate_left
  · intro wx hSx
    clear hSx
    go_simp
    try (with_reducible rfl)
  simp only [Act.put, List.setIfInBounds_toArray, List.set_cons_zero, List.set_cons_succ]
  refine takeD (i := 11) (some 16) (v := ?_) rfl rfl (by kernel_rfl) (by kernel_rfl) (by kernel_rfl) (fun _ _ _ h => h) (by rfl) HS.out ?_ ?_
  rotate_left
  · intro wx hSx
    clear hSx
    go_simp
    try (with_reducible rfl)
  simp only [Act.put, List.setIfInBounds_toArray, List.set_cons_zero, List.set_cons_succ]
  refine takeD (i := 12) (some 17) (v := ?_) rfl rfl (by kernel_rfl) (by kernel_rfl) (by kernel_rfl) (fun _ _ _ h => h) (by rfl) HS.out ?_ ?_
  rotate_left
  · intro wx hSx
    have g1 := HF.out wx hSx
    clear hSx
    go_simp
    try (with_reducible rfl)
  simp only [Act.put, List.setIfInBounds_toArray, List.set_cons_zero, List.set_cons_succ]
  refine wpAnyH_ready (rs := [5]) (by kernel_rfl) (by simp) ?_
  refine AllReadyH.cons rfl (fun K hK => ?_) AllReadyH.nil
  go_simp
  (with_reducible refine (HBEST.out _).mono ?_)
  rintro e w4 ⟨rfl, hb⟩
  have HS4 : Hid (Below w1.heap.size w1 w4) := Lib.hid (HS.out.trans (hb.mono HS.out.size))
  clear hb
  go_simp
  refine hK.out _ _ ?_ (fun hHeld => ?_)
  · exact HS4.out
  clear hHeld hK K
  try simp only [Act.put, List.setIfInBounds_toArray, List.set_cons_zero, List.set_cons_succ]
  replace HS := HS4
  refine takeD (i := 7) (some 12) (v := ?_) rfl rfl (by kernel_rfl) (by kernel_rfl) (by kernel_rfl) (fun _ _ _ h => h) (by rfl) HS.out ?_ ?_
  rotate_left
  · intro wx hSx
    clear hSx
    go_simp
    try (with_reducible rfl)
  simp only [Act.put, List.setIfInBounds_toArray, List.set_cons_zero, List.set_cons_succ]
  refine takeD (i := 8) (some 13) (v := ?_) rfl rfl (by kernel_rfl) (by kernel_rfl) (by kernel_rfl) (fun _ _ _ h => h) (by rfl) HS.out ?_ ?_
  rotate_left
  · intro wx hSx
    have g1 := HK.out wx hSx
    clear hSx
    go_simp
    try (with_reducible rfl)
  simp only [Act.put, List.setIfInBounds_toArray, List.set_cons_zero, List.set_cons_succ]
  refine takeD (i := 13) (some 18) (v := ?_) rfl rfl (by kernel_rfl) (by kernel_rfl) (by kernel_rfl) (fun _ _ _ h => h) (by rfl) HS.out ?_ ?_
  rotate_left
  · intro wx hSx
    clear hSx
    go_simp
    try (with_reducible rfl)
  simp only [Act.put, List.setIfInBounds_toArray, List.set_cons_zero, List.set_cons_succ]
  refine takeD (i := 14) (some 19) (v := ?_) rfl rfl (by kernel_rfl) (by kernel_rfl) (by kernel_rfl) (fun _ _ _ h => h) (by rfl) HS.out ?_ ?_
  rotate_left
  · intro wx hSx
    clear hSx
    go_simp
    try (with_reducible rfl)
  simp only [Act.put, List.setIfInBounds_toArray, List.set_cons_zero, List.set_cons_succ]
  refine takeD (i := 15) (some 4) (v := ?_) rfl rfl (by kernel_rfl) (by kernel_rfl) (by kernel_rfl) (fun _ _ _ h => h) (by rfl) HS.out ?_ ?_
  rotate_left
  · intro wx hSx
    clear hSx
    go_simp
    try (with_reducible rfl)
  simp only [Act.put, List.setIfInBounds_toArray, List.set_cons_zero, List.set_cons_succ]
  refine wpAnyH_done (by kernel_rfl) ?_ _
  go_wp2
  go_ret
  exact ⟨rfl, HB.out.trans (HS.out.mono HB.out.size)⟩

theorem line_any (w : World) (t : PS) (ok : t.ok) (c : Int) : Calls Tryd.prog 11 #[progPV t, .int .i64 c] w fun e w' => e = .returned (.bool (lineT t c)) ∧ Below w.heap.size w w' := by
  by_cases h0 : c = 0
  · subst h0; exact line_0 w t ok
  by_cases h1 : c = 1
  · subst h1; exact line_1 w t ok
  exact line_no w t c (isC_no h0 h1)

end Go.Proofs.YtgimnkablodheaaDoor
