/- Layer 6: the program's uart: Twin. -/
import Derived.Test.YtcbjfkbmbjmnbaaDoorUi
import Derived.Test.YtcbjfkbmbjmnbaaDoorTakeD
import Derived.Test.YtcbjfkbmbjmnbaaDoorDrive
namespace Go.Proofs.YtcbjfkbmbjmnbaaDoor
open Go.RowKit
set_option linter.unusedVariables false

theorem twin_made (mk : Value → Value → US → Array Value) (ty : TypeId) {w w3 w4 : World} {t : US} {v1 v2 : Value} (h3 : w.heap.size ≤ w3.heap.size) (hB : Below w.heap.size w w4) (r1 : RowB w3 v1 t.inn) (o1 : ∀ g, v1.ownBlock = some g → w.heap.size ≤ g) (h34 : Below w3.heap.size w3 w4)
    (r2 : RowB w4 v2 t.out) (o2 : ∀ g, v2.ownBlock = some g → w3.heap.size ≤ g) (ok : t.ok) : MadeU mk ty w t (.returned (.pointer (some ⟨w4.heap.size, 0, none⟩))) (w4.alloc (.cells (mk v1 v2 t) ty)) := by
  have r1' := r1.below h34
  have s34 := h34.size
  refine ⟨w4.heap.size, fun i => i = w4.heap.size ∨ v1.ownBlock = some i ∨ v2.ownBlock = some i, v1, v2, rfl, hB.alloc hB.size _, ?_, ⟨heap_alloc_new w4 _, r1'.below (below_alloc w4 _), r2.below (below_alloc w4 _), .inl rfl, ?_, ?_, ?_, ?_, ok⟩⟩
  · rintro i (rfl | hi | hi)
    · exact hB.size
    · exact o1 i hi
    · exact Nat.le_trans h3 (o2 i hi)
  · intro g hg
    have := r1'.lt g hg
    exact ⟨.inr (.inl hg), by omega⟩
  · intro g hg
    have := r2.lt g hg
    exact ⟨.inr (.inr hg), by omega⟩
  · intro g hg e
    have := r1.lt g hg
    have := o2 g e
    omega
  · rw [World.size_alloc]
    rintro i (rfl | hi | hi)
    · omega
    · have := r1'.lt i hi; omega
    · have := r2.lt i hi; omega

set_option maxRecDepth 100000 in
set_option maxHeartbeats 8000000 in
theorem twin_any (w : World) (b : Nat) (F : Nat → Prop) (t : US) (h : UP w b F t) : Calls Tryd.prog 18 #[.pointer (some ⟨b, 0, none⟩)] w (MadeU cellsP 52 w t) := by
  obtain ⟨vi, vo, h⟩ := h
  have hli := h.ok.li
  have hlo := h.ok.lo
  have H := Lib.hid h
  have HC1 : Hid (∀ wx, Below w.heap.size w wx → Calls Tryd.prog 30 #[vi] wx (CloneE wx t.inn)) := Lib.hid fun wx hx => clone_any wx vi t.inn (h.below hx).ri (by omega)
  have HC2 : Hid (∀ wx, Below w.heap.size w wx → Calls Tryd.prog 30 #[vo] wx (CloneE wx t.out)) := Lib.hid fun wx hx => clone_any wx vo t.out (h.below hx).ro (by omega)
  obtain ⟨ai, ci, hvi, _, _, _⟩ := h.ri.reads (by omega)
  obtain ⟨ao, co, hvo, _, _, _⟩ := h.ro.reads (by omega)
  subst hvi hvo
  have OK := Lib.hid h.ok
  clear h hli hlo
  go_enter Tryd.func18, Tryd.ntmps18
  go_wp2_with fail
  refine wp_region_held_drew (S := fun wx => Below w.heap.size w wx) (by kernel_rfl) ((Below.refl _ _).drew) (fun hHeld0 => ?_)
  have HS := Lib.hid hHeld0
  clear hHeld0
  refine takeD (i := 0) (some 5) (v := ?_) rfl rfl (by kernel_rfl) (by kernel_rfl) (by kernel_rfl) (fun _ _ _ h => h) (by rfl) HS.out ?_ ?_
  rotate_left
  · intro wx hSx
    clear hSx
    go_simp
    try (with_reducible rfl)
  simp only [Act.put, List.setIfInBounds_toArray, List.set_cons_zero, List.set_cons_succ]
  refine takeD (i := 1) (some 6) (v := ?_) rfl rfl (by kernel_rfl) (by kernel_rfl) (by kernel_rfl) (fun _ _ _ h => h) (by rfl) HS.out ?_ ?_
  rotate_left
  · intro wx hSx
    clear hSx
    go_simp
    try (with_reducible rfl)
  simp only [Act.put, List.setIfInBounds_toArray, List.set_cons_zero, List.set_cons_succ]
  refine takeD (i := 2) (some 7) (v := ?_) rfl rfl (by kernel_rfl) (by kernel_rfl) (by kernel_rfl) (fun _ _ _ h => h) (by rfl) HS.out ?_ ?_
  rotate_left
  · intro wx hSx
    clear hSx
    go_simp
    try (with_reducible rfl)
  simp only [Act.put, List.setIfInBounds_toArray, List.set_cons_zero, List.set_cons_succ]
  refine takeD (i := 3) (some 8) (v := ?_) rfl rfl (by kernel_rfl) (by kernel_rfl) (by kernel_rfl) (fun _ _ _ h => h) (by rfl) HS.out ?_ ?_
  rotate_left
  · intro wx hSx
    have kx := H.out.below hSx
    obtain ⟨c0, c1, c2, c3⟩ := kx.pcells
    obtain ⟨c4, c5, c6, c7, c8, c9, c10, c11, c12, c13⟩ := kx.pregs
    clear kx
    clear hSx
    go_simp
    try (with_reducible rfl)
  simp only [Act.put, List.setIfInBounds_toArray, List.set_cons_zero, List.set_cons_succ]
  refine takeD (i := 5) (some 10) (v := ?_) rfl rfl (by kernel_rfl) (by kernel_rfl) (by kernel_rfl) (fun _ _ _ h => h) (by rfl) HS.out ?_ ?_
  rotate_left
  · intro wx hSx
    clear hSx
    go_simp
    try (with_reducible rfl)
  simp only [Act.put, List.setIfInBounds_toArray, List.set_cons_zero, List.set_cons_succ]
  refine takeD (i := 6) (some 11) (v := ?_) rfl rfl (by kernel_rfl) (by kernel_rfl) (by kernel_rfl) (fun _ _ _ h => h) (by rfl) HS.out ?_ ?_
  rotate_left
  · intro wx hSx
    clear hSx
    go_simp
    try (with_reducible rfl)
  simp only [Act.put, List.setIfInBounds_toArray, List.set_cons_zero, List.set_cons_succ]
  refine takeD (i := 7) (some 12) (v := ?_) rfl rfl (by kernel_rfl) (by kernel_rfl) (by kernel_rfl) (fun _ _ _ h => h) (by rfl) HS.out ?_ ?_
  rotate_left
  · intro wx hSx
    clear hSx
    go_simp
    try (with_reducible rfl)
  simp only [Act.put, List.setIfInBounds_toArray, List.set_cons_zero, List.set_cons_succ]
  refine takeD (i := 8) (some 13) (v := ?_) rfl rfl (by kernel_rfl) (by kernel_rfl) (by kernel_rfl) (fun _ _ _ h => h) (by rfl) HS.out ?_ ?_
  rotate_left
  · intro wx hSx
    have kx := H.out.below hSx
    obtain ⟨c0, c1, c2, c3⟩ := kx.pcells
    obtain ⟨c4, c5, c6, c7, c8, c9, c10, c11, c12, c13⟩ := kx.pregs
    clear kx
    clear hSx
    go_simp
    try (with_reducible rfl)
  simp only [Act.put, List.setIfInBounds_toArray, List.set_cons_zero, List.set_cons_succ]
  refine takeD (i := 10) (some 15) (v := ?_) rfl rfl (by kernel_rfl) (by kernel_rfl) (by kernel_rfl) (fun _ _ _ h => h) (by rfl) HS.out ?_ ?_
  rotate_left
  · intro wx hSx
    clear hSx
    go_simp
    try (with_reducible rfl)
  simp only [Act.put, List.setIfInBounds_toArray, List.set_cons_zero, List.set_cons_succ]
  refine takeD (i := 11) (some 16) (v := ?_) rfl rfl (by kernel_rfl) (by kernel_rfl) (by kernel_rfl) (fun _ _ _ h => h) (by rfl) HS.out ?_ ?_
  rotate_left
  · intro wx hSx
    clear hSx
    go_simp
    try (with_reducible rfl)
  simp only [Act.put, List.setIfInBounds_toArray, List.set_cons_zero, List.set_cons_succ]
  refine takeD (i := 12) (some 17) (v := ?_) rfl rfl (by kernel_rfl) (by kernel_rfl) (by kernel_rfl) (fun _ _ _ h => h) (by rfl) HS.out ?_ ?_
  rotate_left
  · intro wx hSx
    clear hSx
    go_simp
    try (with_reducible rfl)
  simp only [Act.put, List.setIfInBounds_toArray, List.set_cons_zero, List.set_cons_succ]
  refine takeD (i := 13) (some 18) (v := ?_) rfl rfl (by kernel_rfl) (by kernel_rfl) (by kernel_rfl) (fun _ _ _ h => h) (by rfl) HS.out ?_ ?_
  rotate_left
  · intro wx hSx
    have kx := H.out.below hSx
    obtain ⟨c0, c1, c2, c3⟩ := kx.pcells
    obtain ⟨c4, c5, c6, c7, c8, c9, c10, c11, c12, c13⟩ := kx.pregs
    clear kx
    clear hSx
    go_simp
    try (with_reducible rfl)
  simp only [Act.put, List.setIfInBounds_toArray, List.set_cons_zero, List.set_cons_succ]
  refine takeD (i := 14) (some 19) (v := ?_) rfl rfl (by kernel_rfl) (by kernel_rfl) (by kernel_rfl) (fun _ _ _ h => h) (by rfl) HS.out ?_ ?_
  rotate_left
  · intro wx hSx
    clear hSx
    go_simp
    try (with_reducible rfl)
  simp only [Act.put, List.setIfInBounds_toArray, List.set_cons_zero, List.set_cons_succ]
  refine takeD (i := 15) (some 20) (v := ?_) rfl rfl (by kernel_rfl) (by kernel_rfl) (by kernel_rfl) (fun _ _ _ h => h) (by rfl) HS.out ?_ ?_
  rotate_left
  · intro wx hSx
    clear hSx
    go_simp
    try (with_reducible rfl)
  simp only [Act.put, List.setIfInBounds_toArray, List.set_cons_zero, List.set_cons_succ]
  refine takeD (i := 16) (some 21) (v := ?_) rfl rfl (by kernel_rfl) (by kernel_rfl) (by kernel_rfl) (fun _ _ _ h => h) (by rfl) HS.out ?_ ?_
  rotate_left
  · intro wx hSx
    clear hSx
    go_simp
    try (with_reducible rfl)
  simp only [Act.put, List.setIfInBounds_toArray, List.set_cons_zero, List.set_cons_succ]
  refine takeD (i := 17) (some 22) (v := ?_) rfl rfl (by kernel_rfl) (by kernel_rfl) (by kernel_rfl) (fun _ _ _ h => h) (by rfl) HS.out ?_ ?_
  rotate_left
  · intro wx hSx
    have kx := H.out.below hSx
    obtain ⟨c0, c1, c2, c3⟩ := kx.pcells
    obtain ⟨c4, c5, c6, c7, c8, c9, c10, c11, c12, c13⟩ := kx.pregs
    clear kx
    clear hSx
    go_simp
    try (with_reducible rfl)
  simp only [Act.put, List.setIfInBounds_toArray, List.set_cons_zero, List.set_cons_succ]
  refine wpAnyH_ready (rs := [4]) (by kernel_rfl) (by simp) ?_
  refine AllReadyH.cons rfl (fun K hK => ?_) AllReadyH.nil
  go_simp
  (with_reducible refine (HC1.out _ HS.out).mono ?_)
  rintro e w3 ⟨a1, k1, rfl, hb1, hr1, ho1⟩
  have HS3 : Hid (Below w.heap.size w w3) := Lib.hid (HS.out.trans (hb1.mono HS.out.size))
  have HR1 := Lib.hid hr1
  have HO1 : Hid (∀ g, (Value.slice a1 t.inn.length k1).ownBlock = some g → w.heap.size ≤ g) := Lib.hid fun g hg => Nat.le_trans HS.out.size (ho1.lt g hg).1
  clear hb1 hr1 ho1
  go_simp
  refine hK.out _ _ ?_ (fun hHeld => ?_)
  · exact HS3.out
  clear hHeld hK K
  try simp only [Act.put, List.setIfInBounds_toArray, List.set_cons_zero, List.set_cons_succ]
  replace HS := HS3
  refine wpAnyH_ready (rs := [9]) (by kernel_rfl) (by simp) ?_
  refine AllReadyH.cons rfl (fun K hK => ?_) AllReadyH.nil
  go_simp
  (with_reducible refine (HC2.out _ HS.out).mono ?_)
  rintro e w4 ⟨a2, k2, rfl, hb2, hr2, ho2⟩
  have HS4 : Hid (Below w.heap.size w w4) := Lib.hid (HS.out.trans (hb2.mono HS.out.size))
  have HR2 := Lib.hid hr2
  have HO2 : Hid (∀ g, (Value.slice a2 t.out.length k2).ownBlock = some g → w3.heap.size ≤ g) := Lib.hid fun g hg => (ho2.lt g hg).1
  have HB34 := Lib.hid hb2
  clear hb2 hr2 ho2
  go_simp
  refine hK.out _ _ ?_ (fun hHeld => ?_)
  · exact HS4.out
  clear hHeld hK K
  try simp only [Act.put, List.setIfInBounds_toArray, List.set_cons_zero, List.set_cons_succ]
  replace HS := HS4
  refine takeD (i := 18) (some 23) (v := ?_) rfl rfl (by kernel_rfl) (by kernel_rfl) (by kernel_rfl) (fun _ _ _ h => h) (by rfl) HS.out ?_ ?_
  rotate_left
  · intro wx hSx
    clear hSx
    go_simp
    try (with_reducible rfl)
  simp only [Act.put, List.setIfInBounds_toArray, List.set_cons_zero, List.set_cons_succ]
  refine wpAnyH_ready (rs := [19]) (by kernel_rfl) (by simp) ?_
  refine AllReadyH.cons rfl (fun K hK => ?_) AllReadyH.nil
  go_simp
  refine hK.out _ _ ?_ (fun hHeld => ?_)
  · exact HS.out.alloc HS.out.size _
  replace HS : Hid (Below w.heap.size w _) := Lib.hid hHeld
  clear hHeld hK K
  try simp only [Act.put, List.setIfInBounds_toArray, List.set_cons_zero, List.set_cons_succ]
  refine takeD (i := 20) (some 2) (v := ?_) rfl rfl (by kernel_rfl) (by kernel_rfl) (by kernel_rfl) (fun _ _ _ h => h) (by rfl) HS.out ?_ ?_
  rotate_left
  · intro wx hSx
    clear hSx
    go_simp
    try (with_reducible rfl)
  simp only [Act.put, List.setIfInBounds_toArray, List.set_cons_zero, List.set_cons_succ]
  refine wpAnyH_done (by kernel_rfl) ?_ _
  go_wp2
  go_ret
  exact twin_made cellsP 52 HS3.out.size HS4.out HR1.out HO1.out HB34.out HR2.out HO2.out OK.out

end Go.Proofs.YtcbjfkbmbjmnbaaDoor
