/- Joined: RfN RfO BuSm BuY BuO BuP LawBusSame PlTab UaTab BuTab -/
import Derived.Test.YtbcnkhfpogglmaaGreatDoorKS6
import Derived.Test.YtbcnkhfpogglmaaGreatDoorRows
import Derived.ProofKit
import Derived.LaidMore
import Derived.OpenShut
import Derived.Stop.Joined
import Derived.MakeChecks
namespace Go.Proofs.YtbcnkhfpogglmaaGreatDoor
open Go.RowKit
set_option linter.unusedVariables false
set_option maxRecDepth 100000

section
variable {w : World} {a b g h : Nat} {K L : Nat → Nat} {vp vq : Value} {ul um : List Nat} {N M : Nat} {st su : BS}
def SameE7 (w : World) (p : Prop) (e : Ending) (w' : World) : Prop := Below w.heap.size w w' ∧ ∃ r : Bool, e = .returned (.bool r) ∧ (r = true ↔ p)
set_option maxHeartbeats 2000000 in
theorem refSame7_full (H : BusR w a K g vp ul N st) (I : BusR w b L h vq um M su) (hne : ul.length = um.length) (hc : eqC st.c su.c = true) (hp : P5.eqR st.p su.p = true) : Calls Tryz.prog 24 #[.pointer (some ⟨a, 0, none⟩), .pointer (some ⟨b, 0, none⟩)] w (SameE7 w ((2147483648 : Int) = 2147483648 ∧ st.size = su.size ∧ (∀ y, st.m y = su.m y) ∧ ∀ j, j < ul.length → U6.sameU (st.us.getD j U6.u0) (su.us.getD j U6.u0) = true)) := by
  obtain ⟨av, cv, rfl, hcap⟩ := H.uarts.len
  obtain ⟨aw, cw, rfl, hcaw⟩ := I.uarts.len
  have HUA : Hid (∀ wx, Below w.heap.size w wx → wx.cell? ⟨a, 198, none⟩ = some (.slice av ul.length cv)) := Lib.hid fun wx o => (H.below o).obj.uarts_
  have HUB : Hid (∀ wx, Below w.heap.size w wx → wx.cell? ⟨b, 198, none⟩ = some (.slice aw um.length cw)) := Lib.hid fun wx o => (I.below o).obj.uarts_
  have HRA : Hid (∀ wx, Below w.heap.size w wx → wx.cell? ⟨a, 0, none⟩ = some (.pointer (some ⟨g, 0, none⟩))) := Lib.hid fun wx o => (H.below o).obj.ram_
  have HRB : Hid (∀ wx, Below w.heap.size w wx → wx.cell? ⟨b, 0, none⟩ = some (.pointer (some ⟨h, 0, none⟩))) := Lib.hid fun wx o => (I.below o).obj.ram_
  have HCA : Hid (∀ wx, Below w.heap.size w wx → wx.rangeAt a 1 (rowC st.c).toList) := Lib.hid fun wx o => (H.below o).obj.rangeC
  have HCB : Hid (∀ wx, Below w.heap.size w wx → wx.rangeAt b 1 (rowC su.c).toList) := Lib.hid fun wx o => (I.below o).obj.rangeC
  have HPA : Hid (∀ wx, Below w.heap.size w wx → wx.rangeAt a 4 (varr 194 (P5.cellR st.p)).toList) := Lib.hid fun wx o => (H.below o).obj.range
  have HPB : Hid (∀ wx, Below w.heap.size w wx → wx.rangeAt b 4 (varr 194 (P5.cellR su.p)).toList) := Lib.hid fun wx o => (I.below o).obj.range
  have HZA : Hid ((Tryz.prog.info? 96).map (·.size) = some (rowC st.c).size) := Lib.hid (by kernel_rfl)
  have HZB : Hid ((Tryz.prog.info? 96).map (·.size) = some (rowC su.c).size) := Lib.hid (by kernel_rfl)
  have HYA : Hid ((Tryz.prog.info? 104).map (·.size) = some (varr 194 (P5.cellR st.p)).size) := Lib.hid (P5.size_refP.trans (by rw [varr_size]))
  have HYB : Hid ((Tryz.prog.info? 104).map (·.size) = some (varr 194 (P5.cellR su.p)).size) := Lib.hid (P5.size_refP.trans (by rw [varr_size]))
  have HNC : Hid (∀ wx : World, (binOp .neq 96 (.agg (rowC st.c)) (.agg (rowC su.c))).run Tryz.prog wx = .ok (.bool false) wx) := Lib.hid fun wx => by rw [neq_refc, hc]; rfl
  have HNP : Hid (∀ wx : World, (binOp .neq 104 (.agg (varr 194 (P5.cellR st.p))) (.agg (varr 194 (P5.cellR su.p)))).run Tryz.prog wx = .ok (.bool false) wx) := Lib.hid fun wx => by rw [neq_refp, hp]; rfl
  have HRS : Hid (∀ wx, Below w.heap.size w wx → Calls Tryz.prog 66 #[.pointer (some ⟨g, 0, none⟩), .pointer (some ⟨h, 0, none⟩)] wx (M3.SameEnd wx ((2147483648 : Int) = 2147483648 ∧ st.size = su.size ∧ ∀ y, st.m y = su.m y))) := Lib.hid fun wx o => by
    obtain ⟨_, gl, _, hm⟩ := (H.below o).mem
    obtain ⟨_, hl, _, hm2⟩ := (I.below o).mem
    exact M3.refSame_any wx g gl h hl _ _ _ _ N M st.m su.m hm hm2
  have HUU : Hid (∀ wx j, Below w.heap.size w wx → j < ul.length → Calls Tryz.prog 67 #[.pointer (some ⟨ul.getD j 0, 0, none⟩), .pointer (some ⟨um.getD j 0, 0, none⟩)] wx (U6.SaysB wx (U6.sameU (st.us.getD j U6.u0) (su.us.getD j U6.u0)))) := Lib.hid fun wx j o hj => U6.refSame_any wx _ _ _ _ _ _ ((H.below o).uart j hj) ((I.below o).uart j (by rw [← hne]; exact hj))
  have HAA : Hid (∀ wx j, Below w.heap.size w wx → j < ul.length → ∃ gp, av = some ⟨gp, 0, none⟩ ∧ wx.cell? ⟨gp, j, none⟩ = some (.pointer (some ⟨ul.getD j 0, 0, none⟩))) := Lib.hid fun wx j o hj => by
    obtain ⟨gp, cap, h1, _, h2⟩ := (H.below o).uarts.cells hj
    injection h1 with h1
    exact ⟨gp, h1, h2⟩
  have HBB : Hid (∀ wx j, Below w.heap.size w wx → j < ul.length → ∃ gp, aw = some ⟨gp, 0, none⟩ ∧ wx.cell? ⟨gp, j, none⟩ = some (.pointer (some ⟨um.getD j 0, 0, none⟩))) := Lib.hid fun wx j o hj => by
    obtain ⟨gp, cap, h1, _, h2⟩ := (I.below o).uarts.cells (k := j) (by rw [← hne]; exact hj)
    injection h1 with h1
    exact ⟨gp, h1, h2⟩
  have hle := H.le
  clear H I hc hp
  rw [← hne] at HUB
  clear hne
  generalize ul.length = n at *
  generalize rowC st.c = ra at *
  generalize rowC su.c = rb at *
  generalize varr 194 (P5.cellR st.p) = pa at *
  generalize varr 194 (P5.cellR su.p) = pb at *
  have q : ((n : Int) != (n : Int)) = false := by simp
  go_enter Tryz.func24, Tryz.ntmps24
  go_wp2
  refine wp_region_held_drew (S := fun wx => Below w.heap.size w wx) (by kernel_rfl) ((Below.refl _ _).drew) (fun hHeld0 => ?_)
  have HS := Lib.hid hHeld0
  clear hHeld0
  refine takeD (i := 0) (some 18) (v := ?_) rfl rfl (by kernel_rfl) (by kernel_rfl) (by kernel_rfl) (fun _ _ _ h => h) (by rfl) HS.out ?_ ?_
  rotate_left
  · intro wx hSx
    clear hSx
    go_simp
    try (with_reducible rfl)
  simp only [Act.put, List.setIfInBounds_toArray, List.set_cons_zero, List.set_cons_succ]
  refine takeD (i := 1) (some 19) (v := ?_) rfl rfl (by kernel_rfl) (by kernel_rfl) (by kernel_rfl) (fun _ _ _ h => h) (by rfl) HS.out ?_ ?_
  rotate_left
  · intro wx hSx
    clear hSx
    go_simp
    try (with_reducible rfl)
  simp only [Act.put, List.setIfInBounds_toArray, List.set_cons_zero, List.set_cons_succ]
  refine takeD (i := 2) (some 20) (v := ?_) rfl rfl (by kernel_rfl) (by kernel_rfl) (by kernel_rfl) (fun _ _ _ h => h) (by rfl) HS.out ?_ ?_
  rotate_left
  · intro wx hSx
    clear hSx
    go_simp
    try (with_reducible rfl)
  simp only [Act.put, List.setIfInBounds_toArray, List.set_cons_zero, List.set_cons_succ]
  refine takeD (i := 3) (some 21) (v := ?_) rfl rfl (by kernel_rfl) (by kernel_rfl) (by kernel_rfl) (fun _ _ _ h => h) (by rfl) HS.out ?_ ?_
  rotate_left
  · intro wx hSx
    have ka := HUA.out wx hSx
    clear hSx
    go_simp
    try (with_reducible rfl)
  simp only [Act.put, List.setIfInBounds_toArray, List.set_cons_zero, List.set_cons_succ]
  refine takeD (i := 4) (some 22) (v := ?_) rfl rfl (by kernel_rfl) (by kernel_rfl) (by kernel_rfl) (fun _ _ _ h => h) (by rfl) HS.out ?_ ?_
  rotate_left
  · intro wx hSx
    clear hSx
    go_simp
    try (with_reducible rfl)
  simp only [Act.put, List.setIfInBounds_toArray, List.set_cons_zero, List.set_cons_succ]
  refine takeD (i := 5) (some 23) (v := ?_) rfl rfl (by kernel_rfl) (by kernel_rfl) (by kernel_rfl) (fun _ _ _ h => h) (by rfl) HS.out ?_ ?_
  rotate_left
  · intro wx hSx
    clear hSx
    go_simp
    try (with_reducible rfl)
  simp only [Act.put, List.setIfInBounds_toArray, List.set_cons_zero, List.set_cons_succ]
  refine takeD (i := 6) (some 24) (v := ?_) rfl rfl (by kernel_rfl) (by kernel_rfl) (by kernel_rfl) (fun _ _ _ h => h) (by rfl) HS.out ?_ ?_
  rotate_left
  · intro wx hSx
    clear hSx
    go_simp
    try (with_reducible rfl)
  simp only [Act.put, List.setIfInBounds_toArray, List.set_cons_zero, List.set_cons_succ]
  refine takeD (i := 7) (some 25) (v := ?_) rfl rfl (by kernel_rfl) (by kernel_rfl) (by kernel_rfl) (fun _ _ _ h => h) (by rfl) HS.out ?_ ?_
  rotate_left
  · intro wx hSx
    clear hSx
    go_simp
    try (with_reducible rfl)
  simp only [Act.put, List.setIfInBounds_toArray, List.set_cons_zero, List.set_cons_succ]
  refine takeD (i := 8) (some 26) (v := ?_) rfl rfl (by kernel_rfl) (by kernel_rfl) (by kernel_rfl) (fun _ _ _ h => h) (by rfl) HS.out ?_ ?_
  rotate_left
  · intro wx hSx
    have kb := HUB.out wx hSx
    clear hSx
    go_simp
    try (with_reducible rfl)
  simp only [Act.put, List.setIfInBounds_toArray, List.set_cons_zero, List.set_cons_succ]
  refine takeD (i := 9) (some 27) (v := ?_) rfl rfl (by kernel_rfl) (by kernel_rfl) (by kernel_rfl) (fun _ _ _ h => h) (by rfl) HS.out ?_ ?_
  rotate_left
  · intro wx hSx
    clear hSx
    go_simp
    try (with_reducible rfl)
  simp only [Act.put, List.setIfInBounds_toArray, List.set_cons_zero, List.set_cons_succ]
  refine takeD (i := 10) (some 28) (v := ?_) rfl rfl (by kernel_rfl) (by kernel_rfl) (by kernel_rfl) (fun _ _ _ h => h) (by rfl) HS.out ?_ ?_
  rotate_left
  · intro wx hSx
    clear hSx
    go_simp
    try (with_reducible rfl)
  simp only [Act.put, List.setIfInBounds_toArray, List.set_cons_zero, List.set_cons_succ]
  refine takeD (i := 11) (some 29) (v := ?_) rfl rfl (by kernel_rfl) (by kernel_rfl) (by kernel_rfl) (fun _ _ _ h => h) (by rfl) HS.out ?_ ?_
  rotate_left
  · intro wx hSx
    clear hSx
    go_simp
    try (with_reducible rfl)
  simp only [Act.put, List.setIfInBounds_toArray, List.set_cons_zero, List.set_cons_succ]
  refine takeD (i := 12) (some 30) (v := ?_) rfl rfl (by kernel_rfl) (by kernel_rfl) (by kernel_rfl) (fun _ _ _ h => h) (by rfl) HS.out ?_ ?_
  rotate_left
  · intro wx hSx
    clear hSx
    go_simp
    try (with_reducible rfl)
  simp only [Act.put, List.setIfInBounds_toArray, List.set_cons_zero, List.set_cons_succ]
  refine takeD (i := 13) (some 31) (v := ?_) rfl rfl (by kernel_rfl) (by kernel_rfl) (by kernel_rfl) (fun _ _ _ h => h) (by rfl) HS.out ?_ ?_
  rotate_left
  · intro wx hSx
    clear hSx
    go_simp
    try (with_reducible rfl)
  simp only [Act.put, List.setIfInBounds_toArray, List.set_cons_zero, List.set_cons_succ]
  refine takeD (i := 14) (some 32) (v := ?_) rfl rfl (by kernel_rfl) (by kernel_rfl) (by kernel_rfl) (fun _ _ _ h => h) (by rfl) HS.out ?_ ?_
  rotate_left
  · intro wx hSx
    clear hSx
    go_simp
    try (with_reducible rfl)
  simp only [Act.put, List.setIfInBounds_toArray, List.set_cons_zero, List.set_cons_succ]
  refine takeD (i := 15) (some 33) (v := ?_) rfl rfl (by kernel_rfl) (by kernel_rfl) (by kernel_rfl) (fun _ _ _ h => h) (by rfl) HS.out ?_ ?_
  rotate_left
  · intro wx hSx
    exact (by refine yield_fr _ (.tmp 32) ?_ a 1 ?_ (run_load_fr wx a 1 96 ra _ (HCA.out wx hSx) Tryz.underlying96 rfl HZA.out) <;> rfl)
  simp only [Act.put, List.setIfInBounds_toArray, List.set_cons_zero, List.set_cons_succ]
  refine takeD (i := 16) (some 34) (v := ?_) rfl rfl (by kernel_rfl) (by kernel_rfl) (by kernel_rfl) (fun _ _ _ h => h) (by rfl) HS.out ?_ ?_
  rotate_left
  · intro wx hSx
    clear hSx
    go_simp
    try (with_reducible rfl)
  simp only [Act.put, List.setIfInBounds_toArray, List.set_cons_zero, List.set_cons_succ]
  refine takeD (i := 17) (some 35) (v := ?_) rfl rfl (by kernel_rfl) (by kernel_rfl) (by kernel_rfl) (fun _ _ _ h => h) (by rfl) HS.out ?_ ?_
  rotate_left
  · intro wx hSx
    clear hSx
    go_simp
    try (with_reducible rfl)
  simp only [Act.put, List.setIfInBounds_toArray, List.set_cons_zero, List.set_cons_succ]
  refine takeD (i := 18) (some 36) (v := ?_) rfl rfl (by kernel_rfl) (by kernel_rfl) (by kernel_rfl) (fun _ _ _ h => h) (by rfl) HS.out ?_ ?_
  rotate_left
  · intro wx hSx
    clear hSx
    go_simp
    try (with_reducible rfl)
  simp only [Act.put, List.setIfInBounds_toArray, List.set_cons_zero, List.set_cons_succ]
  refine takeD (i := 19) (some 37) (v := ?_) rfl rfl (by kernel_rfl) (by kernel_rfl) (by kernel_rfl) (fun _ _ _ h => h) (by rfl) HS.out ?_ ?_
  rotate_left
  · intro wx hSx
    exact (by refine yield_fr _ (.tmp 36) ?_ b 1 ?_ (run_load_fr wx b 1 96 rb _ (HCB.out wx hSx) Tryz.underlying96 rfl HZB.out) <;> rfl)
  simp only [Act.put, List.setIfInBounds_toArray, List.set_cons_zero, List.set_cons_succ]
  refine takeD (i := 20) (some 38) (v := ?_) rfl rfl (by kernel_rfl) (by kernel_rfl) (by kernel_rfl) (fun _ _ _ h => h) (by rfl) HS.out ?_ ?_
  rotate_left
  · intro wx hSx
    exact (by refine yield_neq 96 96 (.tmp 33) (.tmp 37) ?_ ra rb ?_ ?_ (by kernel_rfl) _ (HNC.out wx) <;> rfl)
  simp only [Act.put, List.setIfInBounds_toArray, List.set_cons_zero, List.set_cons_succ]
  refine takeD (i := 21) (some 39) (v := ?_) rfl rfl (by kernel_rfl) (by kernel_rfl) (by kernel_rfl) (fun _ _ _ h => h) (by rfl) HS.out ?_ ?_
  rotate_left
  · intro wx hSx
    clear hSx
    go_simp
    try (with_reducible rfl)
  simp only [Act.put, List.setIfInBounds_toArray, List.set_cons_zero, List.set_cons_succ]
  refine takeD (i := 22) (some 40) (v := ?_) rfl rfl (by kernel_rfl) (by kernel_rfl) (by kernel_rfl) (fun _ _ _ h => h) (by rfl) HS.out ?_ ?_
  rotate_left
  · intro wx hSx
    clear hSx
    go_simp
    try (with_reducible rfl)
  simp only [Act.put, List.setIfInBounds_toArray, List.set_cons_zero, List.set_cons_succ]
  refine takeD (i := 23) (some 41) (v := ?_) rfl rfl (by kernel_rfl) (by kernel_rfl) (by kernel_rfl) (fun _ _ _ h => h) (by rfl) HS.out ?_ ?_
  rotate_left
  · intro wx hSx
    clear hSx
    go_simp
    try (with_reducible rfl)
  simp only [Act.put, List.setIfInBounds_toArray, List.set_cons_zero, List.set_cons_succ]
  refine takeD (i := 24) (some 42) (v := ?_) rfl rfl (by kernel_rfl) (by kernel_rfl) (by kernel_rfl) (fun _ _ _ h => h) (by rfl) HS.out ?_ ?_
  rotate_left
  · intro wx hSx
    clear hSx
    go_simp
    try (with_reducible rfl)
  simp only [Act.put, List.setIfInBounds_toArray, List.set_cons_zero, List.set_cons_succ]
  refine takeD (i := 25) (some 43) (v := ?_) rfl rfl (by kernel_rfl) (by kernel_rfl) (by kernel_rfl) (fun _ _ _ h => h) (by rfl) HS.out ?_ ?_
  rotate_left
  · intro wx hSx
    clear hSx
    go_simp
    try (with_reducible rfl)
  simp only [Act.put, List.setIfInBounds_toArray, List.set_cons_zero, List.set_cons_succ]
  refine takeD (i := 26) (some 44) (v := ?_) rfl rfl (by kernel_rfl) (by kernel_rfl) (by kernel_rfl) (fun _ _ _ h => h) (by rfl) HS.out ?_ ?_
  rotate_left
  · intro wx hSx
    exact (by refine yield_fr _ (.tmp 43) ?_ a 4 ?_ (run_load_fr wx a 4 104 pa _ (HPA.out wx hSx) Tryz.underlying104 rfl HYA.out) <;> rfl)
  simp only [Act.put, List.setIfInBounds_toArray, List.set_cons_zero, List.set_cons_succ]
  refine takeD (i := 27) (some 45) (v := ?_) rfl rfl (by kernel_rfl) (by kernel_rfl) (by kernel_rfl) (fun _ _ _ h => h) (by rfl) HS.out ?_ ?_
  rotate_left
  · intro wx hSx
    clear hSx
    go_simp
    try (with_reducible rfl)
  simp only [Act.put, List.setIfInBounds_toArray, List.set_cons_zero, List.set_cons_succ]
  refine takeD (i := 28) (some 46) (v := ?_) rfl rfl (by kernel_rfl) (by kernel_rfl) (by kernel_rfl) (fun _ _ _ h => h) (by rfl) HS.out ?_ ?_
  rotate_left
  · intro wx hSx
    clear hSx
    go_simp
    try (with_reducible rfl)
  simp only [Act.put, List.setIfInBounds_toArray, List.set_cons_zero, List.set_cons_succ]
  refine takeD (i := 29) (some 47) (v := ?_) rfl rfl (by kernel_rfl) (by kernel_rfl) (by kernel_rfl) (fun _ _ _ h => h) (by rfl) HS.out ?_ ?_
  rotate_left
  · intro wx hSx
    clear hSx
    go_simp
    try (with_reducible rfl)
  simp only [Act.put, List.setIfInBounds_toArray, List.set_cons_zero, List.set_cons_succ]
  refine takeD (i := 30) (some 48) (v := ?_) rfl rfl (by kernel_rfl) (by kernel_rfl) (by kernel_rfl) (fun _ _ _ h => h) (by rfl) HS.out ?_ ?_
  rotate_left
  · intro wx hSx
    exact (by refine yield_fr _ (.tmp 47) ?_ b 4 ?_ (run_load_fr wx b 4 104 pb _ (HPB.out wx hSx) Tryz.underlying104 rfl HYB.out) <;> rfl)
  simp only [Act.put, List.setIfInBounds_toArray, List.set_cons_zero, List.set_cons_succ]
  refine takeD (i := 31) (some 49) (v := ?_) rfl rfl (by kernel_rfl) (by kernel_rfl) (by kernel_rfl) (fun _ _ _ h => h) (by rfl) HS.out ?_ ?_
  rotate_left
  · intro wx hSx
    exact (by refine yield_neq 104 104 (.tmp 44) (.tmp 48) ?_ pa pb ?_ ?_ (by kernel_rfl) _ (HNP.out wx) <;> rfl)
  simp only [Act.put, List.setIfInBounds_toArray, List.set_cons_zero, List.set_cons_succ]
  refine takeD (i := 32) (some 50) (v := ?_) rfl rfl (by kernel_rfl) (by kernel_rfl) (by kernel_rfl) (fun _ _ _ h => h) (by rfl) HS.out ?_ ?_
  rotate_left
  · intro wx hSx
    clear hSx
    go_simp
    try (with_reducible rfl)
  simp only [Act.put, List.setIfInBounds_toArray, List.set_cons_zero, List.set_cons_succ]
  refine takeD (i := 33) (some 51) (v := ?_) rfl rfl (by kernel_rfl) (by kernel_rfl) (by kernel_rfl) (fun _ _ _ h => h) (by rfl) HS.out ?_ ?_
  rotate_left
  · intro wx hSx
    clear hSx
    go_simp
    try (with_reducible rfl)
  simp only [Act.put, List.setIfInBounds_toArray, List.set_cons_zero, List.set_cons_succ]
  refine takeD (i := 34) (some 52) (v := ?_) rfl rfl (by kernel_rfl) (by kernel_rfl) (by kernel_rfl) (fun _ _ _ h => h) (by rfl) HS.out ?_ ?_
  rotate_left
  · intro wx hSx
    clear hSx
    go_simp
    try (with_reducible rfl)
  simp only [Act.put, List.setIfInBounds_toArray, List.set_cons_zero, List.set_cons_succ]
  refine takeD (i := 35) (some 53) (v := ?_) rfl rfl (by kernel_rfl) (by kernel_rfl) (by kernel_rfl) (fun _ _ _ h => h) (by rfl) HS.out ?_ ?_
  rotate_left
  · intro wx hSx
    clear hSx
    go_simp
    try (with_reducible rfl)
  simp only [Act.put, List.setIfInBounds_toArray, List.set_cons_zero, List.set_cons_succ]
  refine takeD (i := 36) (some 54) (v := ?_) rfl rfl (by kernel_rfl) (by kernel_rfl) (by kernel_rfl) (fun _ _ _ h => h) (by rfl) HS.out ?_ ?_
  rotate_left
  · intro wx hSx
    clear hSx
    go_simp
    try (with_reducible rfl)
  simp only [Act.put, List.setIfInBounds_toArray, List.set_cons_zero, List.set_cons_succ]
  refine takeD (i := 37) (some 55) (v := ?_) rfl rfl (by kernel_rfl) (by kernel_rfl) (by kernel_rfl) (fun _ _ _ h => h) (by rfl) HS.out ?_ ?_
  rotate_left
  · intro wx hSx
    have ka := HRA.out wx hSx
    clear hSx
    go_simp
    try (with_reducible rfl)
  simp only [Act.put, List.setIfInBounds_toArray, List.set_cons_zero, List.set_cons_succ]
  refine takeD (i := 38) (some 56) (v := ?_) rfl rfl (by kernel_rfl) (by kernel_rfl) (by kernel_rfl) (fun _ _ _ h => h) (by rfl) HS.out ?_ ?_
  rotate_left
  · intro wx hSx
    clear hSx
    go_simp
    try (with_reducible rfl)
  simp only [Act.put, List.setIfInBounds_toArray, List.set_cons_zero, List.set_cons_succ]
  refine takeD (i := 39) (some 57) (v := ?_) rfl rfl (by kernel_rfl) (by kernel_rfl) (by kernel_rfl) (fun _ _ _ h => h) (by rfl) HS.out ?_ ?_
  rotate_left
  · intro wx hSx
    clear hSx
    go_simp
    try (with_reducible rfl)
  simp only [Act.put, List.setIfInBounds_toArray, List.set_cons_zero, List.set_cons_succ]
  refine takeD (i := 40) (some 58) (v := ?_) rfl rfl (by kernel_rfl) (by kernel_rfl) (by kernel_rfl) (fun _ _ _ h => h) (by rfl) HS.out ?_ ?_
  rotate_left
  · intro wx hSx
    clear hSx
    go_simp
    try (with_reducible rfl)
  simp only [Act.put, List.setIfInBounds_toArray, List.set_cons_zero, List.set_cons_succ]
  refine takeD (i := 41) (some 59) (v := ?_) rfl rfl (by kernel_rfl) (by kernel_rfl) (by kernel_rfl) (fun _ _ _ h => h) (by rfl) HS.out ?_ ?_
  rotate_left
  · intro wx hSx
    have kb := HRB.out wx hSx
    clear hSx
    go_simp
    try (with_reducible rfl)
  simp only [Act.put, List.setIfInBounds_toArray, List.set_cons_zero, List.set_cons_succ]
  refine wpAnyH_ready (rs := [42]) (by kernel_rfl) (by simp) ?_
  refine AllReadyH.cons rfl (fun K hK => ?_) AllReadyH.nil
  go_simp
  refine (HRS.out _ HS.out).mono ?_
  rintro e wc ⟨hbc, rr, rfl, hrr⟩
  have HBC := Lib.hid (HS.out.trans (hbc.mono HS.out.size))
  have HRR := Lib.hid hrr
  clear hbc hrr
  go_simp
  refine hK.out _ _ ?_ (fun hHeld => ?_)
  · exact HBC.out
  clear hHeld hK K
  try simp only [Act.put, List.setIfInBounds_toArray, List.set_cons_zero, List.set_cons_succ]
  replace HS := HBC
  refine takeD (i := 43) (some 61) (v := ?_) rfl rfl (by kernel_rfl) (by kernel_rfl) (by kernel_rfl) (fun _ _ _ h => h) (by rfl) HS.out ?_ ?_
  rotate_left
  · intro wx hSx
    clear hSx
    go_simp
    try (with_reducible rfl)
  simp only [Act.put, List.setIfInBounds_toArray, List.set_cons_zero, List.set_cons_succ]
  refine takeD (i := 44) (some 62) (v := ?_) rfl rfl (by kernel_rfl) (by kernel_rfl) (by kernel_rfl) (fun _ _ _ h => h) (by rfl) HS.out ?_ ?_
  rotate_left
  · intro wx hSx
    clear hSx
    go_simp
    try (with_reducible rfl)
  simp only [Act.put, List.setIfInBounds_toArray, List.set_cons_zero, List.set_cons_succ]
  refine wpAnyH_done (by kernel_rfl) ?_ _
  cases rr with
  | false =>
    go_wp2
    go_ret
    exact ⟨HS.out, false, rfl, by simp only [Bool.false_eq_true, false_iff]; rintro ⟨h1, h2, h3, _⟩; have := HRR.out.2 ⟨h1, h2, h3⟩; cases this⟩
  | true =>
    have HMM := Lib.hid (HRR.out.1 rfl)
    go_wp2
    go_loopw [5] (fun i wr => ∃ k : Nat, k ≤ n ∧ i = .int .i64 k ∧ Hid (Below w.heap.size w wr ∧ ∀ j, j < k → U6.sameU (st.us.getD j U6.u0) (su.us.getD j U6.u0) = true)) (fun i wr => (n - (intOf i).toNat))
    case atStart => exact ⟨0, by omega, rfl, Lib.hid ⟨HS.out, fun j hj => by omega⟩⟩
    case round =>
      obtain ⟨k, hk, rfl, HL⟩ := hrel
      by_cases hlt : k < n
      · have hb := HL.out.1
        obtain ⟨ga, rfl, ca⟩ := HAA.out wr k hb hlt
        obtain ⟨gb, rfl, cb⟩ := HBB.out wr k hb hlt
        have HAC : Hid (∀ wx, Below w.heap.size w wx → wx.cell? ⟨ga, k, none⟩ = some (.pointer (some ⟨ul.getD k 0, 0, none⟩))) := Lib.hid fun wx o => by
          obtain ⟨gp, h1, h2⟩ := HAA.out wx k o hlt
          injection h1 with h1; injection h1 with h1; subst h1; exact h2
        have HBC8 : Hid (∀ wx, Below w.heap.size w wx → wx.cell? ⟨gb, k, none⟩ = some (.pointer (some ⟨um.getD k 0, 0, none⟩))) := Lib.hid fun wx o => by
          obtain ⟨gp, h1, h2⟩ := HBB.out wx k o hlt
          injection h1 with h1; injection h1 with h1; subst h1; exact h2
        have c1 := HUA.out wr hb
        have c2 := HUB.out wr hb
        have HC : Hid (∀ wx, Below w.heap.size w wx → Calls Tryz.prog 67 #[.pointer (some ⟨ul.getD k 0, 0, none⟩), .pointer (some ⟨um.getD k 0, 0, none⟩)] wx (U6.SaysB wx (U6.sameU (st.us.getD k U6.u0) (su.us.getD k U6.u0)))) := Lib.hid fun wx o => HUU.out wx k o hlt
        clear ca cb
        generalize ul.getD k 0 = ua at *
        generalize um.getD k 0 = ub at *
        have hlk : (k : Int) < n := by omega
        cases hs : U6.sameU (st.us.getD k U6.u0) (su.us.getD k U6.u0) with
        | false =>
          rw [hs] at HC
          have HS2 := Lib.hid hs
          clear hs
          go_wp2
          refine wp_region_held_drew (S := fun wx => Below w.heap.size w wx) (by kernel_rfl) ((HL.out.1).drew) (fun hHeld0 => ?_)
          have HS := Lib.hid hHeld0
          clear hHeld0
          refine takeD (i := 0) (some 72) (v := ?_) rfl rfl (by kernel_rfl) (by kernel_rfl) (by kernel_rfl) (fun _ _ _ h => h) (by rfl) HS.out ?_ ?_
          rotate_left
          · intro wx hSx
            clear hSx
            go_simp
            try (with_reducible rfl)
          simp only [Act.put, List.setIfInBounds_toArray, List.set_cons_zero, List.set_cons_succ]
          refine takeD (i := 1) (some 73) (v := ?_) rfl rfl (by kernel_rfl) (by kernel_rfl) (by kernel_rfl) (fun _ _ _ h => h) (by rfl) HS.out ?_ ?_
          rotate_left
          · intro wx hSx
            clear hSx
            go_simp
            try (with_reducible rfl)
          simp only [Act.put, List.setIfInBounds_toArray, List.set_cons_zero, List.set_cons_succ]
          refine takeD (i := 2) (some 74) (v := ?_) rfl rfl (by kernel_rfl) (by kernel_rfl) (by kernel_rfl) (fun _ _ _ h => h) (by rfl) HS.out ?_ ?_
          rotate_left
          · intro wx hSx
            clear hSx
            go_simp
            try (with_reducible rfl)
          simp only [Act.put, List.setIfInBounds_toArray, List.set_cons_zero, List.set_cons_succ]
          refine takeD (i := 3) (some 75) (v := ?_) rfl rfl (by kernel_rfl) (by kernel_rfl) (by kernel_rfl) (fun _ _ _ h => h) (by rfl) HS.out ?_ ?_
          rotate_left
          · intro wx hSx
            have k1 := HUA.out wx hSx
            clear hSx
            go_simp
            try (with_reducible rfl)
          simp only [Act.put, List.setIfInBounds_toArray, List.set_cons_zero, List.set_cons_succ]
          refine takeD (i := 4) (some 76) (v := ?_) rfl rfl (by kernel_rfl) (by kernel_rfl) (by kernel_rfl) (fun _ _ _ h => h) (by rfl) HS.out ?_ ?_
          rotate_left
          · intro wx hSx
            clear hSx
            go_simp
            try (with_reducible rfl)
          simp only [Act.put, List.setIfInBounds_toArray, List.set_cons_zero, List.set_cons_succ]
          refine takeD (i := 5) (some 77) (v := ?_) rfl rfl (by kernel_rfl) (by kernel_rfl) (by kernel_rfl) (fun _ _ _ h => h) (by rfl) HS.out ?_ ?_
          rotate_left
          · intro wx hSx
            clear hSx
            go_simp
            try (with_reducible rfl)
          simp only [Act.put, List.setIfInBounds_toArray, List.set_cons_zero, List.set_cons_succ]
          refine takeD (i := 6) (some 78) (v := ?_) rfl rfl (by kernel_rfl) (by kernel_rfl) (by kernel_rfl) (fun _ _ _ h => h) (by rfl) HS.out ?_ ?_
          rotate_left
          · intro wx hSx
            have k2 := HAC.out wx hSx
            clear hSx
            go_simp
            try (with_reducible rfl)
          simp only [Act.put, List.setIfInBounds_toArray, List.set_cons_zero, List.set_cons_succ]
          refine takeD (i := 7) (some 79) (v := ?_) rfl rfl (by kernel_rfl) (by kernel_rfl) (by kernel_rfl) (fun _ _ _ h => h) (by rfl) HS.out ?_ ?_
          rotate_left
          · intro wx hSx
            clear hSx
            go_simp
            try (with_reducible rfl)
          simp only [Act.put, List.setIfInBounds_toArray, List.set_cons_zero, List.set_cons_succ]
          refine takeD (i := 8) (some 80) (v := ?_) rfl rfl (by kernel_rfl) (by kernel_rfl) (by kernel_rfl) (fun _ _ _ h => h) (by rfl) HS.out ?_ ?_
          rotate_left
          · intro wx hSx
            clear hSx
            go_simp
            try (with_reducible rfl)
          simp only [Act.put, List.setIfInBounds_toArray, List.set_cons_zero, List.set_cons_succ]
          refine takeD (i := 9) (some 81) (v := ?_) rfl rfl (by kernel_rfl) (by kernel_rfl) (by kernel_rfl) (fun _ _ _ h => h) (by rfl) HS.out ?_ ?_
          rotate_left
          · intro wx hSx
            clear hSx
            go_simp
            try (with_reducible rfl)
          simp only [Act.put, List.setIfInBounds_toArray, List.set_cons_zero, List.set_cons_succ]
          refine takeD (i := 10) (some 82) (v := ?_) rfl rfl (by kernel_rfl) (by kernel_rfl) (by kernel_rfl) (fun _ _ _ h => h) (by rfl) HS.out ?_ ?_
          rotate_left
          · intro wx hSx
            have k3 := HUB.out wx hSx
            clear hSx
            go_simp
            try (with_reducible rfl)
          simp only [Act.put, List.setIfInBounds_toArray, List.set_cons_zero, List.set_cons_succ]
          refine takeD (i := 11) (some 83) (v := ?_) rfl rfl (by kernel_rfl) (by kernel_rfl) (by kernel_rfl) (fun _ _ _ h => h) (by rfl) HS.out ?_ ?_
          rotate_left
          · intro wx hSx
            clear hSx
            go_simp
            try (with_reducible rfl)
          simp only [Act.put, List.setIfInBounds_toArray, List.set_cons_zero, List.set_cons_succ]
          refine takeD (i := 12) (some 84) (v := ?_) rfl rfl (by kernel_rfl) (by kernel_rfl) (by kernel_rfl) (fun _ _ _ h => h) (by rfl) HS.out ?_ ?_
          rotate_left
          · intro wx hSx
            clear hSx
            go_simp
            try (with_reducible rfl)
          simp only [Act.put, List.setIfInBounds_toArray, List.set_cons_zero, List.set_cons_succ]
          refine takeD (i := 13) (some 85) (v := ?_) rfl rfl (by kernel_rfl) (by kernel_rfl) (by kernel_rfl) (fun _ _ _ h => h) (by rfl) HS.out ?_ ?_
          rotate_left
          · intro wx hSx
            have k4 := HBC8.out wx hSx
            clear hSx
            go_simp
            try (with_reducible rfl)
          simp only [Act.put, List.setIfInBounds_toArray, List.set_cons_zero, List.set_cons_succ]
          refine wpAnyH_ready (rs := [14]) (by kernel_rfl) (by simp) ?_
          refine AllReadyH.cons rfl (fun K hK => ?_) AllReadyH.nil
          go_simp
          refine (HC.out _ HS.out).mono ?_
          rintro e w5 ⟨rfl, hb5⟩
          have HB5 := Lib.hid (HS.out.trans (hb5.mono HS.out.size))
          clear hb5
          go_simp
          refine hK.out _ _ ?_ (fun hHeld => ?_)
          · exact HB5.out
          clear hHeld hK K
          try simp only [Act.put, List.setIfInBounds_toArray, List.set_cons_zero, List.set_cons_succ]
          replace HS := HB5
          refine takeD (i := 15) (some 87) (v := ?_) rfl rfl (by kernel_rfl) (by kernel_rfl) (by kernel_rfl) (fun _ _ _ h => h) (by rfl) HS.out ?_ ?_
          rotate_left
          · intro wx hSx
            clear hSx
            go_simp
            try (with_reducible rfl)
          simp only [Act.put, List.setIfInBounds_toArray, List.set_cons_zero, List.set_cons_succ]
          refine wpAnyH_done (by kernel_rfl) ?_ _
          go_wp2
          go_ret
          exact ⟨HS.out, false, rfl, by simp only [Bool.false_eq_true, false_iff]; rintro ⟨_, _, _, h4⟩; have := h4 k hlt; rw [HS2.out] at this; cases this⟩
        | true =>
          rw [hs] at HC
          have HS2 := Lib.hid hs
          clear hs
          go_wp2
          refine wp_region_held_drew (S := fun wx => Below w.heap.size w wx) (by kernel_rfl) ((HL.out.1).drew) (fun hHeld0 => ?_)
          have HS := Lib.hid hHeld0
          clear hHeld0
          refine takeD (i := 0) (some 72) (v := ?_) rfl rfl (by kernel_rfl) (by kernel_rfl) (by kernel_rfl) (fun _ _ _ h => h) (by rfl) HS.out ?_ ?_
          rotate_left
          · intro wx hSx
            clear hSx
            go_simp
            try (with_reducible rfl)
          simp only [Act.put, List.setIfInBounds_toArray, List.set_cons_zero, List.set_cons_succ]
          refine takeD (i := 1) (some 73) (v := ?_) rfl rfl (by kernel_rfl) (by kernel_rfl) (by kernel_rfl) (fun _ _ _ h => h) (by rfl) HS.out ?_ ?_
          rotate_left
          · intro wx hSx
            clear hSx
            go_simp
            try (with_reducible rfl)
          simp only [Act.put, List.setIfInBounds_toArray, List.set_cons_zero, List.set_cons_succ]
          refine takeD (i := 2) (some 74) (v := ?_) rfl rfl (by kernel_rfl) (by kernel_rfl) (by kernel_rfl) (fun _ _ _ h => h) (by rfl) HS.out ?_ ?_
          rotate_left
          · intro wx hSx
            clear hSx
            go_simp
            try (with_reducible rfl)
          simp only [Act.put, List.setIfInBounds_toArray, List.set_cons_zero, List.set_cons_succ]
          refine takeD (i := 3) (some 75) (v := ?_) rfl rfl (by kernel_rfl) (by kernel_rfl) (by kernel_rfl) (fun _ _ _ h => h) (by rfl) HS.out ?_ ?_
          rotate_left
          · intro wx hSx
            have k1 := HUA.out wx hSx
            clear hSx
            go_simp
            try (with_reducible rfl)
          simp only [Act.put, List.setIfInBounds_toArray, List.set_cons_zero, List.set_cons_succ]
          refine takeD (i := 4) (some 76) (v := ?_) rfl rfl (by kernel_rfl) (by kernel_rfl) (by kernel_rfl) (fun _ _ _ h => h) (by rfl) HS.out ?_ ?_
          rotate_left
          · intro wx hSx
            clear hSx
            go_simp
            try (with_reducible rfl)
          simp only [Act.put, List.setIfInBounds_toArray, List.set_cons_zero, List.set_cons_succ]
          refine takeD (i := 5) (some 77) (v := ?_) rfl rfl (by kernel_rfl) (by kernel_rfl) (by kernel_rfl) (fun _ _ _ h => h) (by rfl) HS.out ?_ ?_
          rotate_left
          · intro wx hSx
            clear hSx
            go_simp
            try (with_reducible rfl)
          simp only [Act.put, List.setIfInBounds_toArray, List.set_cons_zero, List.set_cons_succ]
          refine takeD (i := 6) (some 78) (v := ?_) rfl rfl (by kernel_rfl) (by kernel_rfl) (by kernel_rfl) (fun _ _ _ h => h) (by rfl) HS.out ?_ ?_
          rotate_left
          · intro wx hSx
            have k2 := HAC.out wx hSx
            clear hSx
            go_simp
            try (with_reducible rfl)
          simp only [Act.put, List.setIfInBounds_toArray, List.set_cons_zero, List.set_cons_succ]
          refine takeD (i := 7) (some 79) (v := ?_) rfl rfl (by kernel_rfl) (by kernel_rfl) (by kernel_rfl) (fun _ _ _ h => h) (by rfl) HS.out ?_ ?_
          rotate_left
          · intro wx hSx
            clear hSx
            go_simp
            try (with_reducible rfl)
          simp only [Act.put, List.setIfInBounds_toArray, List.set_cons_zero, List.set_cons_succ]
          refine takeD (i := 8) (some 80) (v := ?_) rfl rfl (by kernel_rfl) (by kernel_rfl) (by kernel_rfl) (fun _ _ _ h => h) (by rfl) HS.out ?_ ?_
          rotate_left
          · intro wx hSx
            clear hSx
            go_simp
            try (with_reducible rfl)
          simp only [Act.put, List.setIfInBounds_toArray, List.set_cons_zero, List.set_cons_succ]
          refine takeD (i := 9) (some 81) (v := ?_) rfl rfl (by kernel_rfl) (by kernel_rfl) (by kernel_rfl) (fun _ _ _ h => h) (by rfl) HS.out ?_ ?_
          rotate_left
          · intro wx hSx
            clear hSx
            go_simp
            try (with_reducible rfl)
          simp only [Act.put, List.setIfInBounds_toArray, List.set_cons_zero, List.set_cons_succ]
          refine takeD (i := 10) (some 82) (v := ?_) rfl rfl (by kernel_rfl) (by kernel_rfl) (by kernel_rfl) (fun _ _ _ h => h) (by rfl) HS.out ?_ ?_
          rotate_left
          · intro wx hSx
            have k3 := HUB.out wx hSx
            clear hSx
            go_simp
            try (with_reducible rfl)
          simp only [Act.put, List.setIfInBounds_toArray, List.set_cons_zero, List.set_cons_succ]
          refine takeD (i := 11) (some 83) (v := ?_) rfl rfl (by kernel_rfl) (by kernel_rfl) (by kernel_rfl) (fun _ _ _ h => h) (by rfl) HS.out ?_ ?_
          rotate_left
          · intro wx hSx
            clear hSx
            go_simp
            try (with_reducible rfl)
          simp only [Act.put, List.setIfInBounds_toArray, List.set_cons_zero, List.set_cons_succ]
          refine takeD (i := 12) (some 84) (v := ?_) rfl rfl (by kernel_rfl) (by kernel_rfl) (by kernel_rfl) (fun _ _ _ h => h) (by rfl) HS.out ?_ ?_
          rotate_left
          · intro wx hSx
            clear hSx
            go_simp
            try (with_reducible rfl)
          simp only [Act.put, List.setIfInBounds_toArray, List.set_cons_zero, List.set_cons_succ]
          refine takeD (i := 13) (some 85) (v := ?_) rfl rfl (by kernel_rfl) (by kernel_rfl) (by kernel_rfl) (fun _ _ _ h => h) (by rfl) HS.out ?_ ?_
          rotate_left
          · intro wx hSx
            have k4 := HBC8.out wx hSx
            clear hSx
            go_simp
            try (with_reducible rfl)
          simp only [Act.put, List.setIfInBounds_toArray, List.set_cons_zero, List.set_cons_succ]
          refine wpAnyH_ready (rs := [14]) (by kernel_rfl) (by simp) ?_
          refine AllReadyH.cons rfl (fun K hK => ?_) AllReadyH.nil
          go_simp
          refine (HC.out _ HS.out).mono ?_
          rintro e w5 ⟨rfl, hb5⟩
          have HB5 := Lib.hid (HS.out.trans (hb5.mono HS.out.size))
          clear hb5
          go_simp
          refine hK.out _ _ ?_ (fun hHeld => ?_)
          · exact HB5.out
          clear hHeld hK K
          try simp only [Act.put, List.setIfInBounds_toArray, List.set_cons_zero, List.set_cons_succ]
          replace HS := HB5
          refine takeD (i := 15) (some 87) (v := ?_) rfl rfl (by kernel_rfl) (by kernel_rfl) (by kernel_rfl) (fun _ _ _ h => h) (by rfl) HS.out ?_ ?_
          rotate_left
          · intro wx hSx
            clear hSx
            go_simp
            try (with_reducible rfl)
          simp only [Act.put, List.setIfInBounds_toArray, List.set_cons_zero, List.set_cons_succ]
          refine wpAnyH_done (by kernel_rfl) ?_ _
          go_wp2
          go_roundw
          case rel => exact ⟨k + 1, by omega, by go_num, Lib.hid ⟨HS.out, fun j hj => by
            by_cases e : j = k
            · subst e; exact HS2.out
            · exact HL.out.2 j (by omega)⟩⟩
          case measure => simp [intOf]; omega
      · obtain rfl : k = n := by omega
        have c1 := HUA.out wr HL.out.1
        go_wp2
        go_ret
        exact ⟨HL.out.1, true, rfl, by simp only [true_iff]; exact ⟨HMM.out.1, HMM.out.2.1, HMM.out.2.2, HL.out.2⟩⟩
end

end Go.Proofs.YtbcnkhfpogglmaaGreatDoor

namespace Go.Proofs.YtbcnkhfpogglmaaGreatDoor
open Go.RowKit
set_option linter.unusedVariables false
set_option maxRecDepth 100000

section
variable {w : World} {a b g h : Nat} {K L : Nat → Nat} {vp vq : Value} {ul um : List Nat} {N M : Nat} {st su : BS}
/-- What the document's Same asks. -/
def SameB (st su : BS) : Prop := st.us.length = su.us.length ∧ st.c = su.c ∧ P5.eqR st.p su.p = true ∧ st.size = su.size ∧ (∀ y, st.m y = su.m y) ∧ ∀ j, j < st.us.length → U6.sameU (st.us.getD j U6.u0) (su.us.getD j U6.u0) = true
theorem refSame7_any (H : BusR w a K g vp ul N st) (I : BusR w b L h vq um M su) : Calls Tryz.prog 24 #[.pointer (some ⟨a, 0, none⟩), .pointer (some ⟨b, 0, none⟩)] w (SameE7 w (SameB st su)) := by
  have l1 := H.len
  have l2 := I.len
  by_cases hne : ul.length = um.length
  · cases hc : eqC st.c su.c with
    | false =>
      refine (refSame7_clint H I hne hc).mono ?_
      rintro e w' ⟨he, hw⟩
      exact ⟨hw, false, he, by simp only [Bool.false_eq_true, false_iff]; rintro ⟨_, h2, _⟩; rw [(eqC_iff _ _).2 h2] at hc; cases hc⟩
    | true =>
      cases hp : P5.eqR st.p su.p with
      | false =>
        refine (refSame7_plic H I hne hc hp).mono ?_
        rintro e w' ⟨he, hw⟩
        exact ⟨hw, false, he, by simp only [Bool.false_eq_true, false_iff]; rintro ⟨_, _, h3, _⟩; rw [hp] at h3; cases h3⟩
      | true =>
        refine (refSame7_full H I hne hc hp).mono ?_
        rintro e w' ⟨hw, r, he, hr⟩
        refine ⟨hw, r, he, hr.trans ⟨fun ⟨_, h1, h2, h3⟩ => ⟨by omega, (eqC_iff _ _).1 hc, hp, h1, h2, by rw [l1]; exact h3⟩, fun ⟨_, _, _, h1, h2, h3⟩ => ⟨rfl, h1, h2, by rw [l1] at h3; exact h3⟩⟩⟩
  · refine (refSame7_len H I hne).mono ?_
    rintro e w' ⟨he, hw⟩
    exact ⟨hw, false, he, by simp only [Bool.false_eq_true, false_iff]; rintro ⟨h1, _⟩; omega⟩
end

end Go.Proofs.YtbcnkhfpogglmaaGreatDoor

namespace Go.Proofs.YtbcnkhfpogglmaaGreatDoor
open Go.RowKit
set_option linter.unusedVariables false
set_option maxRecDepth 100000

section
variable {P : Program}
theorem yield_eql7 {op : Oper} {a : Act} {w : World} (t ty : TypeId) (x y : Operand) (ho : op.op = .binOp .eql t x y ty) (xs ys : Array Value) (hx : a.eval x = .agg xs) (hy : a.eval y = .agg ys) (hm : P.eqGuardType P.depth t = false) (r : Bool)
    (hr : (binOp .eql t (.agg xs) (.agg ys)).run P w = .ok (.bool r) w) : (execOp a.eval op).run P w = .ok (.value (.bool r)) w := by
  unfold execOp
  simp only [ho, hx, hy, Sem.run_bind, run_eqGuard_agg w .eql t x y _ _ hm, hr, Result.andThen_ok, Sem.run_pure]
end
def rowCp (c : C4.Cl) : Array Value := #[.bool c.s, .int .u64 c.c, .int .u64 c.n]
def eqCp (c d : C4.Cl) : Bool := (c.s == d.s) && (((c.c == d.c) && ((c.n == d.n) && true)) && true)
theorem part_times (c : C4.Cl) (w : World) : (part 60 (rowCp c) 1).run Tryz.prog w = .ok (.agg #[.int .u64 c.c, .int .u64 c.n]) w := by
  obtain ⟨s, a, n⟩ := c
  kernel_rfl
theorem eq_times (a b c d : Int) (w : World) : (Op.equalIn 9999 60 (.agg #[.int .u64 a, .int .u64 b]) (.agg #[.int .u64 c, .int .u64 d])).run Tryz.prog w = .ok ((a == c) && ((b == d) && true)) w := by
  rw [run_equalIn_struct w 9998 60 _ _ (by kernel_rfl) (by kernel_rfl)]
  simp only [Program.fieldsOf, Tryz.underlying60]
  have a30 : ∀ w, (isAgg 26).run Tryz.prog w = .ok false w := fun _ => by kernel_rfl
  refine P5.run_fields_cons w (by decide) (x := .int .u64 a) (y := .int .u64 c) (by simp [part, a30 w]) (by simp [part, a30 w]) (run_equalIn_int w 9997 _ .u64 .u64 _ _ Tryz.underlying26) ?_
  refine P5.run_fields_cons w (by decide) (x := .int .u64 b) (y := .int .u64 d) (by simp [part, a30 w]) (by simp [part, a30 w]) (run_equalIn_int w 9997 _ .u64 .u64 _ _ Tryz.underlying26) ?_
  exact P5.run_fields_nil w _ _ _
theorem eq_progc (c d : C4.Cl) (w : World) : (Op.equalIn 10000 62 (.agg (rowCp c)) (.agg (rowCp d))).run Tryz.prog w = .ok (eqCp c d) w := by
  rw [run_equalIn_struct w 9999 62 _ _ (by kernel_rfl) (by kernel_rfl)]
  simp only [Program.fieldsOf, Tryz.underlying62]
  have a31 : ∀ w, (isAgg 4).run Tryz.prog w = .ok false w := fun _ => by kernel_rfl
  unfold eqCp
  refine P5.run_fields_cons w (by decide) (x := .bool c.s) (y := .bool d.s) (by simp [part, a31 w, rowCp]) (by simp [part, a31 w, rowCp]) (run_equalIn_bool' w 9998 _ _ _ Tryz.underlying4) ?_
  refine P5.run_fields_cons w (by decide) (x := .agg #[.int .u64 c.c, .int .u64 c.n]) (y := .agg #[.int .u64 d.c, .int .u64 d.n]) (part_times c w) (part_times d w) (eq_times _ _ _ _ w) ?_
  exact P5.run_fields_nil w _ _ _
theorem eqCp_iff (c d : C4.Cl) : eqCp c d = true ↔ c = d := by
  obtain ⟨s1, c1, n1⟩ := c
  obtain ⟨s2, c2, n2⟩ := d
  unfold eqCp
  simp only [Bool.and_true, Bool.and_eq_true, beq_iff_eq, C4.Cl.mk.injEq]
theorem BusAt.rangeCp {w : World} {b g : Nat} {c : C4.Cl} {p : P5.PS} {vp : Value} {R : Array Value} (h : BusAt w b g c p vp R) : w.rangeAt b 1 (rowCp c).toList := Fr.range (frC g p vp R) (by have h' := h; unfold BusAt at h'; rw [busRow_c] at h'; exact h')
theorem U6.UP.below7 {w w' : World} {b : Nat} {F : Nat → Prop} {t : U6.US} (h : U6.UP w b F t) (o : Below w.heap.size w w') : U6.UP w' b F t := h.keeps (Only.of_below (fun _ => False) o) fun _ _ => id
set_option maxHeartbeats 1000000 in
theorem samePort_any (w : World) (u v : Nat) (pa pb : Value) (xa xb : Int) (hpa : ∃ p, pa = .pointer p) (hpb : ∃ p, pb = .pointer p) (Fa Fb : Nat → Prop) (t s : U6.US) (h : U6.UP w u Fa t) (k : U6.UP w v Fb s) :
    Calls Tryz.prog 51 #[.agg #[.pointer (some ⟨u, 0, none⟩), pa, .int .i64 xa], .agg #[.pointer (some ⟨v, 0, none⟩), pb, .int .i64 xb]] w (U6.SaysB w (U6.sameU t s)) := by
  obtain ⟨pa, rfl⟩ := hpa
  obtain ⟨pb, rfl⟩ := hpb
  have HC : Hid (∀ wx, Below w.heap.size w wx → Calls Tryz.prog 95 #[.pointer (some ⟨u, 0, none⟩), .pointer (some ⟨v, 0, none⟩)] wx (U6.SaysB wx (U6.sameU t s))) := Lib.hid fun wx o => U6.same_any wx u v Fa Fb t s (h.below7 o) (k.below7 o)
  clear h k
  generalize U6.sameU t s = r at *
  go_enter Tryz.func51, Tryz.ntmps51
  go_wp2_with fail
  (with_reducible refine (HC.out _ (((Below.refl _ _).alloc (Nat.le_refl _) _).alloc (by simp) _)).mono ?_)
  rintro e w1 ⟨rfl, hb⟩
  have HB := Lib.hid ((((Below.refl _ _).alloc (Nat.le_refl _) _).alloc (by simp) _).trans (hb.mono (by simp; omega)))
  clear hb
  go_wp2
  go_ret
  exact ⟨rfl, HB.out⟩
section
variable {w : World} {a b g h : Nat} {K L : Nat → Nat} {vp vq : Value} {ul um : List Nat} {st su : BS}
set_option maxHeartbeats 2000000 in
theorem equalPorts_any (H : BusP w a K g vp ul st) (I : BusP w b L h vq um su) : Calls Tryz.prog 50 #[vp, vq, .func (.func 51) #[] #[]] w (SameE7 w (ul.length = um.length ∧ ∀ j, j < ul.length → U6.sameU (st.us.getD j U6.u0) (su.us.getD j U6.u0) = true)) := by
  have HAA : Hid (∀ wx j, Below w.heap.size w wx → j < ul.length → ∃ gp cap, vp = .slice (some ⟨gp, 0, none⟩) ul.length cap ∧ ul.length ≤ cap ∧ wx.cell? ⟨gp, j * 3, none⟩ = some (.pointer (some ⟨ul.getD j 0, 0, none⟩)) ∧ wx.cell? ⟨gp, j * 3 + 1, none⟩ = some (.pointer (some ⟨a, 4, none⟩)) ∧ wx.cell? ⟨gp, j * 3 + 2, none⟩ = some (.int .i64 (10 + (j : Int)))) := Lib.hid fun wx j o hj => (H.below o).ports.cells hj
  have HBB : Hid (∀ wx j, Below w.heap.size w wx → j < um.length → ∃ gp cap, vq = .slice (some ⟨gp, 0, none⟩) um.length cap ∧ um.length ≤ cap ∧ wx.cell? ⟨gp, j * 3, none⟩ = some (.pointer (some ⟨um.getD j 0, 0, none⟩)) ∧ wx.cell? ⟨gp, j * 3 + 1, none⟩ = some (.pointer (some ⟨b, 4, none⟩)) ∧ wx.cell? ⟨gp, j * 3 + 2, none⟩ = some (.int .i64 (10 + (j : Int)))) := Lib.hid fun wx j o hj => (I.below o).ports.cells hj
  have HUU : Hid (∀ wx j, Below w.heap.size w wx → j < ul.length → j < um.length → Calls Tryz.prog 51 #[.agg #[.pointer (some ⟨ul.getD j 0, 0, none⟩), .pointer (some ⟨a, 4, none⟩), .int .i64 (10 + (j : Int))], .agg #[.pointer (some ⟨um.getD j 0, 0, none⟩), .pointer (some ⟨b, 4, none⟩), .int .i64 (10 + (j : Int))]] wx (U6.SaysB wx (U6.sameU (st.us.getD j U6.u0) (su.us.getD j U6.u0)))) := Lib.hid fun wx j o h1 h2 => samePort_any wx _ _ _ _ _ _ ⟨_, rfl⟩ ⟨_, rfl⟩ _ _ _ _ ((H.below o).uart j h1) ((I.below o).uart j h2)
  obtain ⟨av, cv, rfl, hcap⟩ := H.ports.len
  obtain ⟨aw, cw, rfl, hcaw⟩ := I.ports.len
  have hle := H.le
  have hlf := I.le
  clear H I
  generalize ul.length = n at *
  generalize um.length = m at *
  by_cases hne : n = m
  rotate_left
  · have hq : ((n : Int) != (m : Int)) = true := by rw [bne_iff_ne]; omega
    have hq2 : (n != m) = true := by simpa using hne
    have HNE := Lib.hid hne
    clear hne
    go_enter Tryz.func50, Tryz.ntmps50
    go_wp2
    go_ret
    exact ⟨Below.refl _ _, false, rfl, by simp only [Bool.false_eq_true, false_iff]; exact fun h => HNE.out h.1⟩
  subst hne
  have hq : ((n : Int) != (n : Int)) = false := by simp
  go_enter Tryz.func50, Tryz.ntmps50
  go_wp2
  go_loopw [17] (fun i wr => ∃ k : Nat, k ≤ n ∧ i = .int .i64 k ∧ Hid (Below w.heap.size w wr ∧ ∀ j, j < k → U6.sameU (st.us.getD j U6.u0) (su.us.getD j U6.u0) = true)) (fun i wr => (n - (intOf i).toNat))
  case atStart => exact ⟨0, by omega, rfl, Lib.hid ⟨Below.refl _ _, fun j hj => by omega⟩⟩
  case round =>
    obtain ⟨k, hk, rfl, HL⟩ := hrel
    by_cases hlt : k < n
    · have hb := HL.out.1
      obtain ⟨ga, ca, h1, _, d0, d1, d2⟩ := HAA.out wr k hb hlt
      obtain ⟨gb, cb, h2, _, f0, f1, f2⟩ := HBB.out wr k hb hlt
      injection h1 with h1 _ h1c
      injection h2 with h2 _ h2c
      subst h1 h2 h1c h2c
      have hga : ga < wr.heap.size := World.block_lt_of_cell? _ _ d0
      have hgb : gb < wr.heap.size := World.block_lt_of_cell? _ _ f0
      have HC := Lib.hid fun wx o => HUU.out wx k o hlt hlt
      have HBR := Lib.hid hb
      clear hb HAA HBB
      generalize ul.getD k 0 = ua at *
      generalize um.getD k 0 = ub at *
      have hlk : (k : Int) < n := by omega
      obtain ⟨q, hqq⟩ : ∃ q, q = U6.sameU (st.us.getD k U6.u0) (su.us.getD k U6.u0) := ⟨_, rfl⟩
      rw [← hqq] at HC
      have HQ := Lib.hid hqq
      clear hqq
      go_wp2_with fail
      (with_reducible refine (HC.out _ (HBR.out.trans ((((Below.refl _ _).alloc (Nat.le_refl _) _).alloc (by simp) _).mono HBR.out.size))).mono ?_)
      rintro e w5 ⟨rfl, hb5⟩
      have HB5 : Hid (Below w.heap.size w w5) := Lib.hid ((HBR.out.trans ((((Below.refl _ _).alloc (Nat.le_refl _) _).alloc (by simp) _).mono HBR.out.size)).trans (hb5.mono (by have := HBR.out.size; simp; omega)))
      clear hb5 d0 d1 d2 f0 f1 f2
      cases q with
      | false =>
        go_wp2
        go_ret
        exact ⟨HB5.out, false, rfl, by simp only [Bool.false_eq_true, false_iff]; rintro ⟨_, h4⟩; have := h4 k hlt; rw [← HQ.out] at this; cases this⟩
      | true =>
        go_wp2
        go_roundw
        case rel => exact ⟨k + 1, by omega, by go_num, Lib.hid ⟨HB5.out, fun j hj => by
          by_cases e : j = k
          · subst e; exact HQ.out.symm
          · exact HL.out.2 j (by omega)⟩⟩
        case measure => simp [intOf]; omega
    · have hkl : k = n := by omega
      subst hkl
      go_wp2
      go_ret
      exact ⟨HL.out.1, true, rfl, by simp only [true_iff]; exact ⟨by first | rfl | trivial, HL.out.2⟩⟩
def SameP (st su : BS) (n m : Nat) : Prop := ((2147483648 : Int) = 2147483648 ∧ st.size = su.size ∧ ∀ y, st.m y = su.m y) ∧ eqCp st.c su.c = true ∧ P5.eqQ st.p su.p = true ∧ n = m ∧ ∀ j, j < n → U6.sameU (st.us.getD j U6.u0) (su.us.getD j U6.u0) = true
set_option maxHeartbeats 8000000 in
theorem progSame7_any (H : BusP w a K g vp ul st) (I : BusP w b L h vq um su) : Calls Tryz.prog 19 #[.pointer (some ⟨a, 0, none⟩), .pointer (some ⟨b, 0, none⟩)] w (SameE7 w (SameP st su ul.length um.length)) := by
  obtain ⟨av, cv, rfl, hcap⟩ := H.ports.len
  obtain ⟨aw, cw, rfl, hcaw⟩ := I.ports.len
  have HUA : Hid (∀ wx, Below w.heap.size w wx → wx.cell? ⟨a, 43, none⟩ = some (.slice av ul.length cv)) := Lib.hid fun wx o => (H.below o).obj.ports_
  have HUB : Hid (∀ wx, Below w.heap.size w wx → wx.cell? ⟨b, 43, none⟩ = some (.slice aw um.length cw)) := Lib.hid fun wx o => (I.below o).obj.ports_
  have HRA : Hid (∀ wx, Below w.heap.size w wx → wx.cell? ⟨a, 0, none⟩ = some (.pointer (some ⟨g, 0, none⟩))) := Lib.hid fun wx o => (H.below o).obj.ram_
  have HRB : Hid (∀ wx, Below w.heap.size w wx → wx.cell? ⟨b, 0, none⟩ = some (.pointer (some ⟨h, 0, none⟩))) := Lib.hid fun wx o => (I.below o).obj.ram_
  have HCA : Hid (∀ wx, Below w.heap.size w wx → wx.rangeAt a 1 (rowCp st.c).toList) := Lib.hid fun wx o => (H.below o).obj.rangeCp
  have HCB : Hid (∀ wx, Below w.heap.size w wx → wx.rangeAt b 1 (rowCp su.c).toList) := Lib.hid fun wx o => (I.below o).obj.rangeCp
  have HPA : Hid (∀ wx, Below w.heap.size w wx → wx.rangeAt a 4 (varr 39 (P5.cellQ st.p)).toList) := Lib.hid fun wx o => (H.below o).obj.range
  have HPB : Hid (∀ wx, Below w.heap.size w wx → wx.rangeAt b 4 (varr 39 (P5.cellQ su.p)).toList) := Lib.hid fun wx o => (I.below o).obj.range
  have HZA : Hid ((Tryz.prog.info? 62).map (·.size) = some (rowCp st.c).size) := Lib.hid (by kernel_rfl)
  have HZB : Hid ((Tryz.prog.info? 62).map (·.size) = some (rowCp su.c).size) := Lib.hid (by kernel_rfl)
  have HYA : Hid ((Tryz.prog.info? 69).map (·.size) = some (varr 39 (P5.cellQ st.p)).size) := Lib.hid (P5.size_progP.trans (by rw [varr_size]))
  have HYB : Hid ((Tryz.prog.info? 69).map (·.size) = some (varr 39 (P5.cellQ su.p)).size) := Lib.hid (P5.size_progP.trans (by rw [varr_size]))
  have HEC : Hid (∀ wx : World, (binOp .eql 62 (.agg (rowCp st.c)) (.agg (rowCp su.c))).run Tryz.prog wx = .ok (.bool (eqCp st.c su.c)) wx) := Lib.hid fun wx => by rw [run_eql_struct, eq_progc]; rfl
  have HEP : Hid (∀ wx : World, (binOp .eql 69 (.agg (varr 39 (P5.cellQ st.p))) (.agg (varr 39 (P5.cellQ su.p)))).run Tryz.prog wx = .ok (.bool (P5.eqQ st.p su.p)) wx) := Lib.hid fun wx => P5.eql_prog _ _ wx
  have HM : Hid (∀ wx, Below w.heap.size w wx → Calls Tryz.prog 49 #[.pointer (some ⟨g, 0, none⟩), .pointer (some ⟨h, 0, none⟩)] wx (M3.SameTold wx ((2147483648 : Int) = 2147483648 ∧ st.size = su.size ∧ ∀ y, st.m y = su.m y))) := Lib.hid fun wx o => M3.progSame_any (H.below o).mem (I.below o).mem
  have HEF : Hid (∀ wx, Below w.heap.size w wx → Calls Tryz.prog 50 #[.slice av ul.length cv, .slice aw um.length cw, .func (.func 51) #[] #[]] wx (SameE7 wx (ul.length = um.length ∧ ∀ j, j < ul.length → U6.sameU (st.us.getD j U6.u0) (su.us.getD j U6.u0) = true))) := Lib.hid fun wx o => equalPorts_any (H.below o) (I.below o)
  obtain ⟨ce, hce⟩ : ∃ ce, ce = eqCp st.c su.c := ⟨_, rfl⟩
  obtain ⟨pe, hpe⟩ : ∃ pe, pe = P5.eqQ st.p su.p := ⟨_, rfl⟩
  have HCE := Lib.hid hce
  have HPE := Lib.hid hpe
  rw [← hce] at HEC
  rw [← hpe] at HEP
  have hrs : ∀ r : Bool, (r = true ↔ SameP st su ul.length um.length) → Hid (r = true ↔ SameP st su ul.length um.length) := fun _ h => Lib.hid h
  clear hce hpe H I hcap hcaw hrs
  obtain ⟨SP, hSP⟩ : ∃ SP, SP = SameP st su ul.length um.length := ⟨_, rfl⟩
  have HSP := Lib.hid hSP
  rw [← hSP]
  clear hSP
  generalize rowCp st.c = ra at *
  generalize rowCp su.c = rb at *
  generalize varr 39 (P5.cellQ st.p) = pa at *
  generalize varr 39 (P5.cellQ su.p) = pb at *
  go_enter Tryz.func19, Tryz.ntmps19
  go_wp2
  refine wp_region_held_drew (S := fun wx => Below w.heap.size w wx) (by kernel_rfl) ((Below.refl _ _).drew) (fun hHeld0 => ?_)
  have HS := Lib.hid hHeld0
  clear hHeld0
  refine takeD (i := 0) (some 14) (v := ?_) rfl rfl (by kernel_rfl) (by kernel_rfl) (by kernel_rfl) (fun _ _ _ h => h) (by rfl) HS.out ?_ ?_
  rotate_left
  · intro wx hSx
    clear hSx
    go_simp
    try (with_reducible rfl)
  simp only [Act.put, List.setIfInBounds_toArray, List.set_cons_zero, List.set_cons_succ]
  refine takeD (i := 1) (some 15) (v := ?_) rfl rfl (by kernel_rfl) (by kernel_rfl) (by kernel_rfl) (fun _ _ _ h => h) (by rfl) HS.out ?_ ?_
  rotate_left
  · intro wx hSx
    clear hSx
    go_simp
    try (with_reducible rfl)
  simp only [Act.put, List.setIfInBounds_toArray, List.set_cons_zero, List.set_cons_succ]
  refine takeD (i := 2) (some 16) (v := ?_) rfl rfl (by kernel_rfl) (by kernel_rfl) (by kernel_rfl) (fun _ _ _ h => h) (by rfl) HS.out ?_ ?_
  rotate_left
  · intro wx hSx
    clear hSx
    go_simp
    try (with_reducible rfl)
  simp only [Act.put, List.setIfInBounds_toArray, List.set_cons_zero, List.set_cons_succ]
  refine takeD (i := 3) (some 17) (v := ?_) rfl rfl (by kernel_rfl) (by kernel_rfl) (by kernel_rfl) (fun _ _ _ h => h) (by rfl) HS.out ?_ ?_
  rotate_left
  · intro wx hSx
    have ka := HRA.out wx hSx
    clear hSx
    go_simp
    try (with_reducible rfl)
  simp only [Act.put, List.setIfInBounds_toArray, List.set_cons_zero, List.set_cons_succ]
  refine takeD (i := 4) (some 18) (v := ?_) rfl rfl (by kernel_rfl) (by kernel_rfl) (by kernel_rfl) (fun _ _ _ h => h) (by rfl) HS.out ?_ ?_
  rotate_left
  · intro wx hSx
    clear hSx
    go_simp
    try (with_reducible rfl)
  simp only [Act.put, List.setIfInBounds_toArray, List.set_cons_zero, List.set_cons_succ]
  refine takeD (i := 5) (some 19) (v := ?_) rfl rfl (by kernel_rfl) (by kernel_rfl) (by kernel_rfl) (fun _ _ _ h => h) (by rfl) HS.out ?_ ?_
  rotate_left
  · intro wx hSx
    clear hSx
    go_simp
    try (with_reducible rfl)
  simp only [Act.put, List.setIfInBounds_toArray, List.set_cons_zero, List.set_cons_succ]
  refine takeD (i := 6) (some 20) (v := ?_) rfl rfl (by kernel_rfl) (by kernel_rfl) (by kernel_rfl) (fun _ _ _ h => h) (by rfl) HS.out ?_ ?_
  rotate_left
  · intro wx hSx
    clear hSx
    go_simp
    try (with_reducible rfl)
  simp only [Act.put, List.setIfInBounds_toArray, List.set_cons_zero, List.set_cons_succ]
  refine takeD (i := 7) (some 21) (v := ?_) rfl rfl (by kernel_rfl) (by kernel_rfl) (by kernel_rfl) (fun _ _ _ h => h) (by rfl) HS.out ?_ ?_
  rotate_left
  · intro wx hSx
    have kb := HRB.out wx hSx
    clear hSx
    go_simp
    try (with_reducible rfl)
  simp only [Act.put, List.setIfInBounds_toArray, List.set_cons_zero, List.set_cons_succ]
  refine wpAnyH_ready (rs := [8]) (by kernel_rfl) (by simp) ?_
  refine AllReadyH.cons rfl (fun K hK => ?_) AllReadyH.nil
  go_simp
  (with_reducible refine (HM.out _ HS.out).mono ?_)
  rintro e wc ⟨hbc, rm, rfl, hrm⟩
  have HBC := Lib.hid (HS.out.trans (hbc.mono HS.out.size))
  have HRM := Lib.hid hrm
  clear hbc hrm
  go_simp
  refine hK.out _ _ ?_ (fun hHeld => ?_)
  · exact HBC.out
  clear hHeld hK K
  try simp only [Act.put, List.setIfInBounds_toArray, List.set_cons_zero, List.set_cons_succ]
  replace HS := HBC
  clear HM
  rcases (show rm = false ∨ (rm = true ∧ ce = false) ∨ (rm = true ∧ ce = true ∧ pe = false) ∨ (rm = true ∧ ce = true ∧ pe = true) by cases rm <;> cases ce <;> cases pe <;> simp) with rfl | ⟨rfl, rfl⟩ | ⟨rfl, rfl, rfl⟩ | ⟨rfl, rfl, rfl⟩
  · clear HEC HEP HEF
    refine takeD (i := 9) (some 23) (v := ?_) rfl rfl (by kernel_rfl) (by kernel_rfl) (by kernel_rfl) (fun _ _ _ h => h) (by rfl) HS.out ?_ ?_
    rotate_left
    · intro wx hSx
      clear hSx
      go_simp
      try (with_reducible rfl)
    simp only [Act.put, List.setIfInBounds_toArray, List.set_cons_zero, List.set_cons_succ]
    refine skipD (i := 10) (some 24) rfl rfl (by kernel_rfl) (by kernel_rfl) (by kernel_rfl) (fun _ _ _ h => h) (by rfl) HS.out ?_
    simp only [Act.put, List.setIfInBounds_toArray, List.set_cons_zero, List.set_cons_succ]
    refine skipD (i := 11) (some 25) rfl rfl (by kernel_rfl) (by kernel_rfl) (by kernel_rfl) (fun _ _ _ h => h) (by rfl) HS.out ?_
    simp only [Act.put, List.setIfInBounds_toArray, List.set_cons_zero, List.set_cons_succ]
    refine skipD (i := 12) (some 26) rfl rfl (by kernel_rfl) (by kernel_rfl) (by kernel_rfl) (fun _ _ _ h => h) (by rfl) HS.out ?_
    simp only [Act.put, List.setIfInBounds_toArray, List.set_cons_zero, List.set_cons_succ]
    refine skipD (i := 13) (some 27) rfl rfl (by kernel_rfl) (by kernel_rfl) (by kernel_rfl) (fun _ _ _ h => h) (by rfl) HS.out ?_
    simp only [Act.put, List.setIfInBounds_toArray, List.set_cons_zero, List.set_cons_succ]
    refine skipD (i := 14) (some 28) rfl rfl (by kernel_rfl) (by kernel_rfl) (by kernel_rfl) (fun _ _ _ h => h) (by rfl) HS.out ?_
    simp only [Act.put, List.setIfInBounds_toArray, List.set_cons_zero, List.set_cons_succ]
    refine skipD (i := 15) (some 29) rfl rfl (by kernel_rfl) (by kernel_rfl) (by kernel_rfl) (fun _ _ _ h => h) (by rfl) HS.out ?_
    simp only [Act.put, List.setIfInBounds_toArray, List.set_cons_zero, List.set_cons_succ]
    refine skipD (i := 16) (some 30) rfl rfl (by kernel_rfl) (by kernel_rfl) (by kernel_rfl) (fun _ _ _ h => h) (by rfl) HS.out ?_
    simp only [Act.put, List.setIfInBounds_toArray, List.set_cons_zero, List.set_cons_succ]
    refine skipD (i := 17) (some 31) rfl rfl (by kernel_rfl) (by kernel_rfl) (by kernel_rfl) (fun _ _ _ h => h) (by rfl) HS.out ?_
    simp only [Act.put, List.setIfInBounds_toArray, List.set_cons_zero, List.set_cons_succ]
    refine skipD (i := 18) (some 32) rfl rfl (by kernel_rfl) (by kernel_rfl) (by kernel_rfl) (fun _ _ _ h => h) (by rfl) HS.out ?_
    simp only [Act.put, List.setIfInBounds_toArray, List.set_cons_zero, List.set_cons_succ]
    refine takeD (i := 19) (some 33) (v := ?_) rfl rfl (by kernel_rfl) (by kernel_rfl) (by kernel_rfl) (fun _ _ _ h => h) (by rfl) HS.out ?_ ?_
    rotate_left
    · intro wx hSx
      clear hSx
      go_simp
      try (with_reducible rfl)
    simp only [Act.put, List.setIfInBounds_toArray, List.set_cons_zero, List.set_cons_succ]
    refine takeD (i := 20) (some 34) (v := ?_) rfl rfl (by kernel_rfl) (by kernel_rfl) (by kernel_rfl) (fun _ _ _ h => h) (by rfl) HS.out ?_ ?_
    rotate_left
    · intro wx hSx
      clear hSx
      go_simp
      try (with_reducible rfl)
    simp only [Act.put, List.setIfInBounds_toArray, List.set_cons_zero, List.set_cons_succ]
    refine skipD (i := 21) (some 35) rfl rfl (by kernel_rfl) (by kernel_rfl) (by kernel_rfl) (fun _ _ _ h => h) (by rfl) HS.out ?_
    simp only [Act.put, List.setIfInBounds_toArray, List.set_cons_zero, List.set_cons_succ]
    refine skipD (i := 22) (some 36) rfl rfl (by kernel_rfl) (by kernel_rfl) (by kernel_rfl) (fun _ _ _ h => h) (by rfl) HS.out ?_
    simp only [Act.put, List.setIfInBounds_toArray, List.set_cons_zero, List.set_cons_succ]
    refine skipD (i := 23) (some 37) rfl rfl (by kernel_rfl) (by kernel_rfl) (by kernel_rfl) (fun _ _ _ h => h) (by rfl) HS.out ?_
    simp only [Act.put, List.setIfInBounds_toArray, List.set_cons_zero, List.set_cons_succ]
    refine skipD (i := 24) (some 38) rfl rfl (by kernel_rfl) (by kernel_rfl) (by kernel_rfl) (fun _ _ _ h => h) (by rfl) HS.out ?_
    simp only [Act.put, List.setIfInBounds_toArray, List.set_cons_zero, List.set_cons_succ]
    refine skipD (i := 25) (some 39) rfl rfl (by kernel_rfl) (by kernel_rfl) (by kernel_rfl) (fun _ _ _ h => h) (by rfl) HS.out ?_
    simp only [Act.put, List.setIfInBounds_toArray, List.set_cons_zero, List.set_cons_succ]
    refine skipD (i := 26) (some 40) rfl rfl (by kernel_rfl) (by kernel_rfl) (by kernel_rfl) (fun _ _ _ h => h) (by rfl) HS.out ?_
    simp only [Act.put, List.setIfInBounds_toArray, List.set_cons_zero, List.set_cons_succ]
    refine skipD (i := 27) (some 41) rfl rfl (by kernel_rfl) (by kernel_rfl) (by kernel_rfl) (fun _ _ _ h => h) (by rfl) HS.out ?_
    simp only [Act.put, List.setIfInBounds_toArray, List.set_cons_zero, List.set_cons_succ]
    refine skipD (i := 28) (some 42) rfl rfl (by kernel_rfl) (by kernel_rfl) (by kernel_rfl) (fun _ _ _ h => h) (by rfl) HS.out ?_
    simp only [Act.put, List.setIfInBounds_toArray, List.set_cons_zero, List.set_cons_succ]
    refine skipD (i := 29) (some 43) rfl rfl (by kernel_rfl) (by kernel_rfl) (by kernel_rfl) (fun _ _ _ h => h) (by rfl) HS.out ?_
    simp only [Act.put, List.setIfInBounds_toArray, List.set_cons_zero, List.set_cons_succ]
    refine takeD (i := 30) (some 44) (v := ?_) rfl rfl (by kernel_rfl) (by kernel_rfl) (by kernel_rfl) (fun _ _ _ h => h) (by rfl) HS.out ?_ ?_
    rotate_left
    · intro wx hSx
      clear hSx
      go_simp
      try (with_reducible rfl)
    simp only [Act.put, List.setIfInBounds_toArray, List.set_cons_zero, List.set_cons_succ]
    refine takeD (i := 31) (some 45) (v := ?_) rfl rfl (by kernel_rfl) (by kernel_rfl) (by kernel_rfl) (fun _ _ _ h => h) (by rfl) HS.out ?_ ?_
    rotate_left
    · intro wx hSx
      clear hSx
      go_simp
      try (with_reducible rfl)
    simp only [Act.put, List.setIfInBounds_toArray, List.set_cons_zero, List.set_cons_succ]
    refine skipD (i := 32) (some 46) rfl rfl (by kernel_rfl) (by kernel_rfl) (by kernel_rfl) (fun _ _ _ h => h) (by rfl) HS.out ?_
    simp only [Act.put, List.setIfInBounds_toArray, List.set_cons_zero, List.set_cons_succ]
    refine skipD (i := 33) (some 47) rfl rfl (by kernel_rfl) (by kernel_rfl) (by kernel_rfl) (fun _ _ _ h => h) (by rfl) HS.out ?_
    simp only [Act.put, List.setIfInBounds_toArray, List.set_cons_zero, List.set_cons_succ]
    refine skipD (i := 34) (some 48) rfl rfl (by kernel_rfl) (by kernel_rfl) (by kernel_rfl) (fun _ _ _ h => h) (by rfl) HS.out ?_
    simp only [Act.put, List.setIfInBounds_toArray, List.set_cons_zero, List.set_cons_succ]
    refine skipD (i := 35) (some 49) rfl rfl (by kernel_rfl) (by kernel_rfl) (by kernel_rfl) (fun _ _ _ h => h) (by rfl) HS.out ?_
    simp only [Act.put, List.setIfInBounds_toArray, List.set_cons_zero, List.set_cons_succ]
    refine skipD (i := 36) (some 50) rfl rfl (by kernel_rfl) (by kernel_rfl) (by kernel_rfl) (fun _ _ _ h => h) (by rfl) HS.out ?_
    simp only [Act.put, List.setIfInBounds_toArray, List.set_cons_zero, List.set_cons_succ]
    refine skipD (i := 37) (some 51) rfl rfl (by kernel_rfl) (by kernel_rfl) (by kernel_rfl) (fun _ _ _ h => h) (by rfl) HS.out ?_
    simp only [Act.put, List.setIfInBounds_toArray, List.set_cons_zero, List.set_cons_succ]
    refine skipD (i := 38) (some 52) rfl rfl (by kernel_rfl) (by kernel_rfl) (by kernel_rfl) (fun _ _ _ h => h) (by rfl) HS.out ?_
    simp only [Act.put, List.setIfInBounds_toArray, List.set_cons_zero, List.set_cons_succ]
    refine skipD (i := 39) (some 53) rfl rfl (by kernel_rfl) (by kernel_rfl) (by kernel_rfl) (fun _ _ _ h => h) (by rfl) HS.out ?_
    simp only [Act.put, List.setIfInBounds_toArray, List.set_cons_zero, List.set_cons_succ]
    refine skipD (i := 40) (some 54) rfl rfl (by kernel_rfl) (by kernel_rfl) (by kernel_rfl) (fun _ _ _ h => h) (by rfl) HS.out ?_
    simp only [Act.put, List.setIfInBounds_toArray, List.set_cons_zero, List.set_cons_succ]
    refine takeD (i := 41) (some 55) (v := ?_) rfl rfl (by kernel_rfl) (by kernel_rfl) (by kernel_rfl) (fun _ _ _ h => h) (by rfl) HS.out ?_ ?_
    rotate_left
    · intro wx hSx
      clear hSx
      go_simp
      try (with_reducible rfl)
    simp only [Act.put, List.setIfInBounds_toArray, List.set_cons_zero, List.set_cons_succ]
    refine takeD (i := 42) (some 4) (v := ?_) rfl rfl (by kernel_rfl) (by kernel_rfl) (by kernel_rfl) (fun _ _ _ h => h) (by rfl) HS.out ?_ ?_
    rotate_left
    · intro wx hSx
      clear hSx
      go_simp
      try (with_reducible rfl)
    simp only [Act.put, List.setIfInBounds_toArray, List.set_cons_zero, List.set_cons_succ]
    refine wpAnyH_done (by kernel_rfl) ?_ _
    go_wp2
    go_ret
    exact ⟨HS.out, false, rfl, by simp only [Bool.false_eq_true, false_iff]; rw [HSP.out]; exact fun h => by have := HRM.out.2 ⟨by first | rfl | trivial, h.1.2⟩; cases this⟩
  · clear HEP HEF
    refine takeD (i := 9) (some 23) (v := ?_) rfl rfl (by kernel_rfl) (by kernel_rfl) (by kernel_rfl) (fun _ _ _ h => h) (by rfl) HS.out ?_ ?_
    rotate_left
    · intro wx hSx
      clear hSx
      go_simp
      try (with_reducible rfl)
    simp only [Act.put, List.setIfInBounds_toArray, List.set_cons_zero, List.set_cons_succ]
    refine takeD (i := 10) (some 24) (v := ?_) rfl rfl (by kernel_rfl) (by kernel_rfl) (by kernel_rfl) (fun _ _ _ h => h) (by rfl) HS.out ?_ ?_
    rotate_left
    · intro wx hSx
      clear hSx
      go_simp
      try (with_reducible rfl)
    simp only [Act.put, List.setIfInBounds_toArray, List.set_cons_zero, List.set_cons_succ]
    refine takeD (i := 11) (some 25) (v := ?_) rfl rfl (by kernel_rfl) (by kernel_rfl) (by kernel_rfl) (fun _ _ _ h => h) (by rfl) HS.out ?_ ?_
    rotate_left
    · intro wx hSx
      clear hSx
      go_simp
      try (with_reducible rfl)
    simp only [Act.put, List.setIfInBounds_toArray, List.set_cons_zero, List.set_cons_succ]
    refine takeD (i := 12) (some 26) (v := ?_) rfl rfl (by kernel_rfl) (by kernel_rfl) (by kernel_rfl) (fun _ _ _ h => h) (by rfl) HS.out ?_ ?_
    rotate_left
    · intro wx hSx
      clear hSx
      go_simp
      try (with_reducible rfl)
    simp only [Act.put, List.setIfInBounds_toArray, List.set_cons_zero, List.set_cons_succ]
    refine takeD (i := 13) (some 27) (v := ?_) rfl rfl (by kernel_rfl) (by kernel_rfl) (by kernel_rfl) (fun _ _ _ h => h) (by rfl) HS.out ?_ ?_
    rotate_left
    · intro wx hSx
      exact (by refine yield_fr _ (.tmp 26) ?_ a 1 ?_ (run_load_fr wx a 1 62 ra _ (HCA.out wx hSx) Tryz.underlying62 rfl HZA.out) <;> rfl)
    simp only [Act.put, List.setIfInBounds_toArray, List.set_cons_zero, List.set_cons_succ]
    refine takeD (i := 14) (some 28) (v := ?_) rfl rfl (by kernel_rfl) (by kernel_rfl) (by kernel_rfl) (fun _ _ _ h => h) (by rfl) HS.out ?_ ?_
    rotate_left
    · intro wx hSx
      clear hSx
      go_simp
      try (with_reducible rfl)
    simp only [Act.put, List.setIfInBounds_toArray, List.set_cons_zero, List.set_cons_succ]
    refine takeD (i := 15) (some 29) (v := ?_) rfl rfl (by kernel_rfl) (by kernel_rfl) (by kernel_rfl) (fun _ _ _ h => h) (by rfl) HS.out ?_ ?_
    rotate_left
    · intro wx hSx
      clear hSx
      go_simp
      try (with_reducible rfl)
    simp only [Act.put, List.setIfInBounds_toArray, List.set_cons_zero, List.set_cons_succ]
    refine takeD (i := 16) (some 30) (v := ?_) rfl rfl (by kernel_rfl) (by kernel_rfl) (by kernel_rfl) (fun _ _ _ h => h) (by rfl) HS.out ?_ ?_
    rotate_left
    · intro wx hSx
      clear hSx
      go_simp
      try (with_reducible rfl)
    simp only [Act.put, List.setIfInBounds_toArray, List.set_cons_zero, List.set_cons_succ]
    refine takeD (i := 17) (some 31) (v := ?_) rfl rfl (by kernel_rfl) (by kernel_rfl) (by kernel_rfl) (fun _ _ _ h => h) (by rfl) HS.out ?_ ?_
    rotate_left
    · intro wx hSx
      exact (by refine yield_fr _ (.tmp 30) ?_ b 1 ?_ (run_load_fr wx b 1 62 rb _ (HCB.out wx hSx) Tryz.underlying62 rfl HZB.out) <;> rfl)
    simp only [Act.put, List.setIfInBounds_toArray, List.set_cons_zero, List.set_cons_succ]
    refine takeD (i := 18) (some 32) (v := ?_) rfl rfl (by kernel_rfl) (by kernel_rfl) (by kernel_rfl) (fun _ _ _ h => h) (by rfl) HS.out ?_ ?_
    rotate_left
    · intro wx hSx
      exact (by refine yield_eql7 62 62 (.tmp 27) (.tmp 31) ?_ ra rb ?_ ?_ (by kernel_rfl) _ (HEC.out wx) <;> rfl)
    simp only [Act.put, List.setIfInBounds_toArray, List.set_cons_zero, List.set_cons_succ]
    refine takeD (i := 19) (some 33) (v := ?_) rfl rfl (by kernel_rfl) (by kernel_rfl) (by kernel_rfl) (fun _ _ _ h => h) (by rfl) HS.out ?_ ?_
    rotate_left
    · intro wx hSx
      clear hSx
      go_simp
      try (with_reducible rfl)
    simp only [Act.put, List.setIfInBounds_toArray, List.set_cons_zero, List.set_cons_succ]
    refine takeD (i := 20) (some 34) (v := ?_) rfl rfl (by kernel_rfl) (by kernel_rfl) (by kernel_rfl) (fun _ _ _ h => h) (by rfl) HS.out ?_ ?_
    rotate_left
    · intro wx hSx
      clear hSx
      go_simp
      try (with_reducible rfl)
    simp only [Act.put, List.setIfInBounds_toArray, List.set_cons_zero, List.set_cons_succ]
    refine skipD (i := 21) (some 35) rfl rfl (by kernel_rfl) (by kernel_rfl) (by kernel_rfl) (fun _ _ _ h => h) (by rfl) HS.out ?_
    simp only [Act.put, List.setIfInBounds_toArray, List.set_cons_zero, List.set_cons_succ]
    refine skipD (i := 22) (some 36) rfl rfl (by kernel_rfl) (by kernel_rfl) (by kernel_rfl) (fun _ _ _ h => h) (by rfl) HS.out ?_
    simp only [Act.put, List.setIfInBounds_toArray, List.set_cons_zero, List.set_cons_succ]
    refine skipD (i := 23) (some 37) rfl rfl (by kernel_rfl) (by kernel_rfl) (by kernel_rfl) (fun _ _ _ h => h) (by rfl) HS.out ?_
    simp only [Act.put, List.setIfInBounds_toArray, List.set_cons_zero, List.set_cons_succ]
    refine skipD (i := 24) (some 38) rfl rfl (by kernel_rfl) (by kernel_rfl) (by kernel_rfl) (fun _ _ _ h => h) (by rfl) HS.out ?_
    simp only [Act.put, List.setIfInBounds_toArray, List.set_cons_zero, List.set_cons_succ]
    refine skipD (i := 25) (some 39) rfl rfl (by kernel_rfl) (by kernel_rfl) (by kernel_rfl) (fun _ _ _ h => h) (by rfl) HS.out ?_
    simp only [Act.put, List.setIfInBounds_toArray, List.set_cons_zero, List.set_cons_succ]
    refine skipD (i := 26) (some 40) rfl rfl (by kernel_rfl) (by kernel_rfl) (by kernel_rfl) (fun _ _ _ h => h) (by rfl) HS.out ?_
    simp only [Act.put, List.setIfInBounds_toArray, List.set_cons_zero, List.set_cons_succ]
    refine skipD (i := 27) (some 41) rfl rfl (by kernel_rfl) (by kernel_rfl) (by kernel_rfl) (fun _ _ _ h => h) (by rfl) HS.out ?_
    simp only [Act.put, List.setIfInBounds_toArray, List.set_cons_zero, List.set_cons_succ]
    refine skipD (i := 28) (some 42) rfl rfl (by kernel_rfl) (by kernel_rfl) (by kernel_rfl) (fun _ _ _ h => h) (by rfl) HS.out ?_
    simp only [Act.put, List.setIfInBounds_toArray, List.set_cons_zero, List.set_cons_succ]
    refine skipD (i := 29) (some 43) rfl rfl (by kernel_rfl) (by kernel_rfl) (by kernel_rfl) (fun _ _ _ h => h) (by rfl) HS.out ?_
    simp only [Act.put, List.setIfInBounds_toArray, List.set_cons_zero, List.set_cons_succ]
    refine takeD (i := 30) (some 44) (v := ?_) rfl rfl (by kernel_rfl) (by kernel_rfl) (by kernel_rfl) (fun _ _ _ h => h) (by rfl) HS.out ?_ ?_
    rotate_left
    · intro wx hSx
      clear hSx
      go_simp
      try (with_reducible rfl)
    simp only [Act.put, List.setIfInBounds_toArray, List.set_cons_zero, List.set_cons_succ]
    refine takeD (i := 31) (some 45) (v := ?_) rfl rfl (by kernel_rfl) (by kernel_rfl) (by kernel_rfl) (fun _ _ _ h => h) (by rfl) HS.out ?_ ?_
    rotate_left
    · intro wx hSx
      clear hSx
      go_simp
      try (with_reducible rfl)
    simp only [Act.put, List.setIfInBounds_toArray, List.set_cons_zero, List.set_cons_succ]
    refine skipD (i := 32) (some 46) rfl rfl (by kernel_rfl) (by kernel_rfl) (by kernel_rfl) (fun _ _ _ h => h) (by rfl) HS.out ?_
    simp only [Act.put, List.setIfInBounds_toArray, List.set_cons_zero, List.set_cons_succ]
    refine skipD (i := 33) (some 47) rfl rfl (by kernel_rfl) (by kernel_rfl) (by kernel_rfl) (fun _ _ _ h => h) (by rfl) HS.out ?_
    simp only [Act.put, List.setIfInBounds_toArray, List.set_cons_zero, List.set_cons_succ]
    refine skipD (i := 34) (some 48) rfl rfl (by kernel_rfl) (by kernel_rfl) (by kernel_rfl) (fun _ _ _ h => h) (by rfl) HS.out ?_
    simp only [Act.put, List.setIfInBounds_toArray, List.set_cons_zero, List.set_cons_succ]
    refine skipD (i := 35) (some 49) rfl rfl (by kernel_rfl) (by kernel_rfl) (by kernel_rfl) (fun _ _ _ h => h) (by rfl) HS.out ?_
    simp only [Act.put, List.setIfInBounds_toArray, List.set_cons_zero, List.set_cons_succ]
    refine skipD (i := 36) (some 50) rfl rfl (by kernel_rfl) (by kernel_rfl) (by kernel_rfl) (fun _ _ _ h => h) (by rfl) HS.out ?_
    simp only [Act.put, List.setIfInBounds_toArray, List.set_cons_zero, List.set_cons_succ]
    refine skipD (i := 37) (some 51) rfl rfl (by kernel_rfl) (by kernel_rfl) (by kernel_rfl) (fun _ _ _ h => h) (by rfl) HS.out ?_
    simp only [Act.put, List.setIfInBounds_toArray, List.set_cons_zero, List.set_cons_succ]
    refine skipD (i := 38) (some 52) rfl rfl (by kernel_rfl) (by kernel_rfl) (by kernel_rfl) (fun _ _ _ h => h) (by rfl) HS.out ?_
    simp only [Act.put, List.setIfInBounds_toArray, List.set_cons_zero, List.set_cons_succ]
    refine skipD (i := 39) (some 53) rfl rfl (by kernel_rfl) (by kernel_rfl) (by kernel_rfl) (fun _ _ _ h => h) (by rfl) HS.out ?_
    simp only [Act.put, List.setIfInBounds_toArray, List.set_cons_zero, List.set_cons_succ]
    refine skipD (i := 40) (some 54) rfl rfl (by kernel_rfl) (by kernel_rfl) (by kernel_rfl) (fun _ _ _ h => h) (by rfl) HS.out ?_
    simp only [Act.put, List.setIfInBounds_toArray, List.set_cons_zero, List.set_cons_succ]
    refine takeD (i := 41) (some 55) (v := ?_) rfl rfl (by kernel_rfl) (by kernel_rfl) (by kernel_rfl) (fun _ _ _ h => h) (by rfl) HS.out ?_ ?_
    rotate_left
    · intro wx hSx
      clear hSx
      go_simp
      try (with_reducible rfl)
    simp only [Act.put, List.setIfInBounds_toArray, List.set_cons_zero, List.set_cons_succ]
    refine takeD (i := 42) (some 4) (v := ?_) rfl rfl (by kernel_rfl) (by kernel_rfl) (by kernel_rfl) (fun _ _ _ h => h) (by rfl) HS.out ?_ ?_
    rotate_left
    · intro wx hSx
      clear hSx
      go_simp
      try (with_reducible rfl)
    simp only [Act.put, List.setIfInBounds_toArray, List.set_cons_zero, List.set_cons_succ]
    refine wpAnyH_done (by kernel_rfl) ?_ _
    go_wp2
    go_ret
    exact ⟨HS.out, false, rfl, by simp only [Bool.false_eq_true, false_iff]; rw [HSP.out]; exact fun h => by have := h.2.1; rw [← HCE.out] at this; cases this⟩
  · clear HEF
    refine takeD (i := 9) (some 23) (v := ?_) rfl rfl (by kernel_rfl) (by kernel_rfl) (by kernel_rfl) (fun _ _ _ h => h) (by rfl) HS.out ?_ ?_
    rotate_left
    · intro wx hSx
      clear hSx
      go_simp
      try (with_reducible rfl)
    simp only [Act.put, List.setIfInBounds_toArray, List.set_cons_zero, List.set_cons_succ]
    refine takeD (i := 10) (some 24) (v := ?_) rfl rfl (by kernel_rfl) (by kernel_rfl) (by kernel_rfl) (fun _ _ _ h => h) (by rfl) HS.out ?_ ?_
    rotate_left
    · intro wx hSx
      clear hSx
      go_simp
      try (with_reducible rfl)
    simp only [Act.put, List.setIfInBounds_toArray, List.set_cons_zero, List.set_cons_succ]
    refine takeD (i := 11) (some 25) (v := ?_) rfl rfl (by kernel_rfl) (by kernel_rfl) (by kernel_rfl) (fun _ _ _ h => h) (by rfl) HS.out ?_ ?_
    rotate_left
    · intro wx hSx
      clear hSx
      go_simp
      try (with_reducible rfl)
    simp only [Act.put, List.setIfInBounds_toArray, List.set_cons_zero, List.set_cons_succ]
    refine takeD (i := 12) (some 26) (v := ?_) rfl rfl (by kernel_rfl) (by kernel_rfl) (by kernel_rfl) (fun _ _ _ h => h) (by rfl) HS.out ?_ ?_
    rotate_left
    · intro wx hSx
      clear hSx
      go_simp
      try (with_reducible rfl)
    simp only [Act.put, List.setIfInBounds_toArray, List.set_cons_zero, List.set_cons_succ]
    refine takeD (i := 13) (some 27) (v := ?_) rfl rfl (by kernel_rfl) (by kernel_rfl) (by kernel_rfl) (fun _ _ _ h => h) (by rfl) HS.out ?_ ?_
    rotate_left
    · intro wx hSx
      exact (by refine yield_fr _ (.tmp 26) ?_ a 1 ?_ (run_load_fr wx a 1 62 ra _ (HCA.out wx hSx) Tryz.underlying62 rfl HZA.out) <;> rfl)
    simp only [Act.put, List.setIfInBounds_toArray, List.set_cons_zero, List.set_cons_succ]
    refine takeD (i := 14) (some 28) (v := ?_) rfl rfl (by kernel_rfl) (by kernel_rfl) (by kernel_rfl) (fun _ _ _ h => h) (by rfl) HS.out ?_ ?_
    rotate_left
    · intro wx hSx
      clear hSx
      go_simp
      try (with_reducible rfl)
    simp only [Act.put, List.setIfInBounds_toArray, List.set_cons_zero, List.set_cons_succ]
    refine takeD (i := 15) (some 29) (v := ?_) rfl rfl (by kernel_rfl) (by kernel_rfl) (by kernel_rfl) (fun _ _ _ h => h) (by rfl) HS.out ?_ ?_
    rotate_left
    · intro wx hSx
      clear hSx
      go_simp
      try (with_reducible rfl)
    simp only [Act.put, List.setIfInBounds_toArray, List.set_cons_zero, List.set_cons_succ]
    refine takeD (i := 16) (some 30) (v := ?_) rfl rfl (by kernel_rfl) (by kernel_rfl) (by kernel_rfl) (fun _ _ _ h => h) (by rfl) HS.out ?_ ?_
    rotate_left
    · intro wx hSx
      clear hSx
      go_simp
      try (with_reducible rfl)
    simp only [Act.put, List.setIfInBounds_toArray, List.set_cons_zero, List.set_cons_succ]
    refine takeD (i := 17) (some 31) (v := ?_) rfl rfl (by kernel_rfl) (by kernel_rfl) (by kernel_rfl) (fun _ _ _ h => h) (by rfl) HS.out ?_ ?_
    rotate_left
    · intro wx hSx
      exact (by refine yield_fr _ (.tmp 30) ?_ b 1 ?_ (run_load_fr wx b 1 62 rb _ (HCB.out wx hSx) Tryz.underlying62 rfl HZB.out) <;> rfl)
    simp only [Act.put, List.setIfInBounds_toArray, List.set_cons_zero, List.set_cons_succ]
    refine takeD (i := 18) (some 32) (v := ?_) rfl rfl (by kernel_rfl) (by kernel_rfl) (by kernel_rfl) (fun _ _ _ h => h) (by rfl) HS.out ?_ ?_
    rotate_left
    · intro wx hSx
      exact (by refine yield_eql7 62 62 (.tmp 27) (.tmp 31) ?_ ra rb ?_ ?_ (by kernel_rfl) _ (HEC.out wx) <;> rfl)
    simp only [Act.put, List.setIfInBounds_toArray, List.set_cons_zero, List.set_cons_succ]
    refine takeD (i := 19) (some 33) (v := ?_) rfl rfl (by kernel_rfl) (by kernel_rfl) (by kernel_rfl) (fun _ _ _ h => h) (by rfl) HS.out ?_ ?_
    rotate_left
    · intro wx hSx
      clear hSx
      go_simp
      try (with_reducible rfl)
    simp only [Act.put, List.setIfInBounds_toArray, List.set_cons_zero, List.set_cons_succ]
    refine takeD (i := 20) (some 34) (v := ?_) rfl rfl (by kernel_rfl) (by kernel_rfl) (by kernel_rfl) (fun _ _ _ h => h) (by rfl) HS.out ?_ ?_
    rotate_left
    · intro wx hSx
      clear hSx
      go_simp
      try (with_reducible rfl)
    simp only [Act.put, List.setIfInBounds_toArray, List.set_cons_zero, List.set_cons_succ]
    refine takeD (i := 21) (some 35) (v := ?_) rfl rfl (by kernel_rfl) (by kernel_rfl) (by kernel_rfl) (fun _ _ _ h => h) (by rfl) HS.out ?_ ?_
    rotate_left
    · intro wx hSx
      clear hSx
      go_simp
      try (with_reducible rfl)
    simp only [Act.put, List.setIfInBounds_toArray, List.set_cons_zero, List.set_cons_succ]
    refine takeD (i := 22) (some 36) (v := ?_) rfl rfl (by kernel_rfl) (by kernel_rfl) (by kernel_rfl) (fun _ _ _ h => h) (by rfl) HS.out ?_ ?_
    rotate_left
    · intro wx hSx
      clear hSx
      go_simp
      try (with_reducible rfl)
    simp only [Act.put, List.setIfInBounds_toArray, List.set_cons_zero, List.set_cons_succ]
    refine takeD (i := 23) (some 37) (v := ?_) rfl rfl (by kernel_rfl) (by kernel_rfl) (by kernel_rfl) (fun _ _ _ h => h) (by rfl) HS.out ?_ ?_
    rotate_left
    · intro wx hSx
      clear hSx
      go_simp
      try (with_reducible rfl)
    simp only [Act.put, List.setIfInBounds_toArray, List.set_cons_zero, List.set_cons_succ]
    refine takeD (i := 24) (some 38) (v := ?_) rfl rfl (by kernel_rfl) (by kernel_rfl) (by kernel_rfl) (fun _ _ _ h => h) (by rfl) HS.out ?_ ?_
    rotate_left
    · intro wx hSx
      exact (by refine yield_fr _ (.tmp 37) ?_ a 4 ?_ (run_load_fr wx a 4 69 pa _ (HPA.out wx hSx) Tryz.underlying69 rfl HYA.out) <;> rfl)
    simp only [Act.put, List.setIfInBounds_toArray, List.set_cons_zero, List.set_cons_succ]
    refine takeD (i := 25) (some 39) (v := ?_) rfl rfl (by kernel_rfl) (by kernel_rfl) (by kernel_rfl) (fun _ _ _ h => h) (by rfl) HS.out ?_ ?_
    rotate_left
    · intro wx hSx
      clear hSx
      go_simp
      try (with_reducible rfl)
    simp only [Act.put, List.setIfInBounds_toArray, List.set_cons_zero, List.set_cons_succ]
    refine takeD (i := 26) (some 40) (v := ?_) rfl rfl (by kernel_rfl) (by kernel_rfl) (by kernel_rfl) (fun _ _ _ h => h) (by rfl) HS.out ?_ ?_
    rotate_left
    · intro wx hSx
      clear hSx
      go_simp
      try (with_reducible rfl)
    simp only [Act.put, List.setIfInBounds_toArray, List.set_cons_zero, List.set_cons_succ]
    refine takeD (i := 27) (some 41) (v := ?_) rfl rfl (by kernel_rfl) (by kernel_rfl) (by kernel_rfl) (fun _ _ _ h => h) (by rfl) HS.out ?_ ?_
    rotate_left
    · intro wx hSx
      clear hSx
      go_simp
      try (with_reducible rfl)
    simp only [Act.put, List.setIfInBounds_toArray, List.set_cons_zero, List.set_cons_succ]
    refine takeD (i := 28) (some 42) (v := ?_) rfl rfl (by kernel_rfl) (by kernel_rfl) (by kernel_rfl) (fun _ _ _ h => h) (by rfl) HS.out ?_ ?_
    rotate_left
    · intro wx hSx
      exact (by refine yield_fr _ (.tmp 41) ?_ b 4 ?_ (run_load_fr wx b 4 69 pb _ (HPB.out wx hSx) Tryz.underlying69 rfl HYB.out) <;> rfl)
    simp only [Act.put, List.setIfInBounds_toArray, List.set_cons_zero, List.set_cons_succ]
    refine takeD (i := 29) (some 43) (v := ?_) rfl rfl (by kernel_rfl) (by kernel_rfl) (by kernel_rfl) (fun _ _ _ h => h) (by rfl) HS.out ?_ ?_
    rotate_left
    · intro wx hSx
      exact (by refine yield_eql7 69 69 (.tmp 38) (.tmp 42) ?_ pa pb ?_ ?_ (by kernel_rfl) _ (HEP.out wx) <;> rfl)
    simp only [Act.put, List.setIfInBounds_toArray, List.set_cons_zero, List.set_cons_succ]
    refine takeD (i := 30) (some 44) (v := ?_) rfl rfl (by kernel_rfl) (by kernel_rfl) (by kernel_rfl) (fun _ _ _ h => h) (by rfl) HS.out ?_ ?_
    rotate_left
    · intro wx hSx
      clear hSx
      go_simp
      try (with_reducible rfl)
    simp only [Act.put, List.setIfInBounds_toArray, List.set_cons_zero, List.set_cons_succ]
    refine takeD (i := 31) (some 45) (v := ?_) rfl rfl (by kernel_rfl) (by kernel_rfl) (by kernel_rfl) (fun _ _ _ h => h) (by rfl) HS.out ?_ ?_
    rotate_left
    · intro wx hSx
      clear hSx
      go_simp
      try (with_reducible rfl)
    simp only [Act.put, List.setIfInBounds_toArray, List.set_cons_zero, List.set_cons_succ]
    refine skipD (i := 32) (some 46) rfl rfl (by kernel_rfl) (by kernel_rfl) (by kernel_rfl) (fun _ _ _ h => h) (by rfl) HS.out ?_
    simp only [Act.put, List.setIfInBounds_toArray, List.set_cons_zero, List.set_cons_succ]
    refine skipD (i := 33) (some 47) rfl rfl (by kernel_rfl) (by kernel_rfl) (by kernel_rfl) (fun _ _ _ h => h) (by rfl) HS.out ?_
    simp only [Act.put, List.setIfInBounds_toArray, List.set_cons_zero, List.set_cons_succ]
    refine skipD (i := 34) (some 48) rfl rfl (by kernel_rfl) (by kernel_rfl) (by kernel_rfl) (fun _ _ _ h => h) (by rfl) HS.out ?_
    simp only [Act.put, List.setIfInBounds_toArray, List.set_cons_zero, List.set_cons_succ]
    refine skipD (i := 35) (some 49) rfl rfl (by kernel_rfl) (by kernel_rfl) (by kernel_rfl) (fun _ _ _ h => h) (by rfl) HS.out ?_
    simp only [Act.put, List.setIfInBounds_toArray, List.set_cons_zero, List.set_cons_succ]
    refine skipD (i := 36) (some 50) rfl rfl (by kernel_rfl) (by kernel_rfl) (by kernel_rfl) (fun _ _ _ h => h) (by rfl) HS.out ?_
    simp only [Act.put, List.setIfInBounds_toArray, List.set_cons_zero, List.set_cons_succ]
    refine skipD (i := 37) (some 51) rfl rfl (by kernel_rfl) (by kernel_rfl) (by kernel_rfl) (fun _ _ _ h => h) (by rfl) HS.out ?_
    simp only [Act.put, List.setIfInBounds_toArray, List.set_cons_zero, List.set_cons_succ]
    refine skipD (i := 38) (some 52) rfl rfl (by kernel_rfl) (by kernel_rfl) (by kernel_rfl) (fun _ _ _ h => h) (by rfl) HS.out ?_
    simp only [Act.put, List.setIfInBounds_toArray, List.set_cons_zero, List.set_cons_succ]
    refine skipD (i := 39) (some 53) rfl rfl (by kernel_rfl) (by kernel_rfl) (by kernel_rfl) (fun _ _ _ h => h) (by rfl) HS.out ?_
    simp only [Act.put, List.setIfInBounds_toArray, List.set_cons_zero, List.set_cons_succ]
    refine skipD (i := 40) (some 54) rfl rfl (by kernel_rfl) (by kernel_rfl) (by kernel_rfl) (fun _ _ _ h => h) (by rfl) HS.out ?_
    simp only [Act.put, List.setIfInBounds_toArray, List.set_cons_zero, List.set_cons_succ]
    refine takeD (i := 41) (some 55) (v := ?_) rfl rfl (by kernel_rfl) (by kernel_rfl) (by kernel_rfl) (fun _ _ _ h => h) (by rfl) HS.out ?_ ?_
    rotate_left
    · intro wx hSx
      clear hSx
      go_simp
      try (with_reducible rfl)
    simp only [Act.put, List.setIfInBounds_toArray, List.set_cons_zero, List.set_cons_succ]
    refine takeD (i := 42) (some 4) (v := ?_) rfl rfl (by kernel_rfl) (by kernel_rfl) (by kernel_rfl) (fun _ _ _ h => h) (by rfl) HS.out ?_ ?_
    rotate_left
    · intro wx hSx
      clear hSx
      go_simp
      try (with_reducible rfl)
    simp only [Act.put, List.setIfInBounds_toArray, List.set_cons_zero, List.set_cons_succ]
    refine wpAnyH_done (by kernel_rfl) ?_ _
    go_wp2
    go_ret
    exact ⟨HS.out, false, rfl, by simp only [Bool.false_eq_true, false_iff]; rw [HSP.out]; exact fun h => by have := h.2.2.1; rw [← HPE.out] at this; cases this⟩
  · skip
    refine takeD (i := 9) (some 23) (v := ?_) rfl rfl (by kernel_rfl) (by kernel_rfl) (by kernel_rfl) (fun _ _ _ h => h) (by rfl) HS.out ?_ ?_
    rotate_left
    · intro wx hSx
      clear hSx
      go_simp
      try (with_reducible rfl)
    simp only [Act.put, List.setIfInBounds_toArray, List.set_cons_zero, List.set_cons_succ]
    refine takeD (i := 10) (some 24) (v := ?_) rfl rfl (by kernel_rfl) (by kernel_rfl) (by kernel_rfl) (fun _ _ _ h => h) (by rfl) HS.out ?_ ?_
    rotate_left
    · intro wx hSx
      clear hSx
      go_simp
      try (with_reducible rfl)
    simp only [Act.put, List.setIfInBounds_toArray, List.set_cons_zero, List.set_cons_succ]
    refine takeD (i := 11) (some 25) (v := ?_) rfl rfl (by kernel_rfl) (by kernel_rfl) (by kernel_rfl) (fun _ _ _ h => h) (by rfl) HS.out ?_ ?_
    rotate_left
    · intro wx hSx
      clear hSx
      go_simp
      try (with_reducible rfl)
    simp only [Act.put, List.setIfInBounds_toArray, List.set_cons_zero, List.set_cons_succ]
    refine takeD (i := 12) (some 26) (v := ?_) rfl rfl (by kernel_rfl) (by kernel_rfl) (by kernel_rfl) (fun _ _ _ h => h) (by rfl) HS.out ?_ ?_
    rotate_left
    · intro wx hSx
      clear hSx
      go_simp
      try (with_reducible rfl)
    simp only [Act.put, List.setIfInBounds_toArray, List.set_cons_zero, List.set_cons_succ]
    refine takeD (i := 13) (some 27) (v := ?_) rfl rfl (by kernel_rfl) (by kernel_rfl) (by kernel_rfl) (fun _ _ _ h => h) (by rfl) HS.out ?_ ?_
    rotate_left
    · intro wx hSx
      exact (by refine yield_fr _ (.tmp 26) ?_ a 1 ?_ (run_load_fr wx a 1 62 ra _ (HCA.out wx hSx) Tryz.underlying62 rfl HZA.out) <;> rfl)
    simp only [Act.put, List.setIfInBounds_toArray, List.set_cons_zero, List.set_cons_succ]
    refine takeD (i := 14) (some 28) (v := ?_) rfl rfl (by kernel_rfl) (by kernel_rfl) (by kernel_rfl) (fun _ _ _ h => h) (by rfl) HS.out ?_ ?_
    rotate_left
    · intro wx hSx
      clear hSx
      go_simp
      try (with_reducible rfl)
    simp only [Act.put, List.setIfInBounds_toArray, List.set_cons_zero, List.set_cons_succ]
    refine takeD (i := 15) (some 29) (v := ?_) rfl rfl (by kernel_rfl) (by kernel_rfl) (by kernel_rfl) (fun _ _ _ h => h) (by rfl) HS.out ?_ ?_
    rotate_left
    · intro wx hSx
      clear hSx
      go_simp
      try (with_reducible rfl)
    simp only [Act.put, List.setIfInBounds_toArray, List.set_cons_zero, List.set_cons_succ]
    refine takeD (i := 16) (some 30) (v := ?_) rfl rfl (by kernel_rfl) (by kernel_rfl) (by kernel_rfl) (fun _ _ _ h => h) (by rfl) HS.out ?_ ?_
    rotate_left
    · intro wx hSx
      clear hSx
      go_simp
      try (with_reducible rfl)
    simp only [Act.put, List.setIfInBounds_toArray, List.set_cons_zero, List.set_cons_succ]
    refine takeD (i := 17) (some 31) (v := ?_) rfl rfl (by kernel_rfl) (by kernel_rfl) (by kernel_rfl) (fun _ _ _ h => h) (by rfl) HS.out ?_ ?_
    rotate_left
    · intro wx hSx
      exact (by refine yield_fr _ (.tmp 30) ?_ b 1 ?_ (run_load_fr wx b 1 62 rb _ (HCB.out wx hSx) Tryz.underlying62 rfl HZB.out) <;> rfl)
    simp only [Act.put, List.setIfInBounds_toArray, List.set_cons_zero, List.set_cons_succ]
    refine takeD (i := 18) (some 32) (v := ?_) rfl rfl (by kernel_rfl) (by kernel_rfl) (by kernel_rfl) (fun _ _ _ h => h) (by rfl) HS.out ?_ ?_
    rotate_left
    · intro wx hSx
      exact (by refine yield_eql7 62 62 (.tmp 27) (.tmp 31) ?_ ra rb ?_ ?_ (by kernel_rfl) _ (HEC.out wx) <;> rfl)
    simp only [Act.put, List.setIfInBounds_toArray, List.set_cons_zero, List.set_cons_succ]
    refine takeD (i := 19) (some 33) (v := ?_) rfl rfl (by kernel_rfl) (by kernel_rfl) (by kernel_rfl) (fun _ _ _ h => h) (by rfl) HS.out ?_ ?_
    rotate_left
    · intro wx hSx
      clear hSx
      go_simp
      try (with_reducible rfl)
    simp only [Act.put, List.setIfInBounds_toArray, List.set_cons_zero, List.set_cons_succ]
    refine takeD (i := 20) (some 34) (v := ?_) rfl rfl (by kernel_rfl) (by kernel_rfl) (by kernel_rfl) (fun _ _ _ h => h) (by rfl) HS.out ?_ ?_
    rotate_left
    · intro wx hSx
      clear hSx
      go_simp
      try (with_reducible rfl)
    simp only [Act.put, List.setIfInBounds_toArray, List.set_cons_zero, List.set_cons_succ]
    refine takeD (i := 21) (some 35) (v := ?_) rfl rfl (by kernel_rfl) (by kernel_rfl) (by kernel_rfl) (fun _ _ _ h => h) (by rfl) HS.out ?_ ?_
    rotate_left
    · intro wx hSx
      clear hSx
      go_simp
      try (with_reducible rfl)
    simp only [Act.put, List.setIfInBounds_toArray, List.set_cons_zero, List.set_cons_succ]
    refine takeD (i := 22) (some 36) (v := ?_) rfl rfl (by kernel_rfl) (by kernel_rfl) (by kernel_rfl) (fun _ _ _ h => h) (by rfl) HS.out ?_ ?_
    rotate_left
    · intro wx hSx
      clear hSx
      go_simp
      try (with_reducible rfl)
    simp only [Act.put, List.setIfInBounds_toArray, List.set_cons_zero, List.set_cons_succ]
    refine takeD (i := 23) (some 37) (v := ?_) rfl rfl (by kernel_rfl) (by kernel_rfl) (by kernel_rfl) (fun _ _ _ h => h) (by rfl) HS.out ?_ ?_
    rotate_left
    · intro wx hSx
      clear hSx
      go_simp
      try (with_reducible rfl)
    simp only [Act.put, List.setIfInBounds_toArray, List.set_cons_zero, List.set_cons_succ]
    refine takeD (i := 24) (some 38) (v := ?_) rfl rfl (by kernel_rfl) (by kernel_rfl) (by kernel_rfl) (fun _ _ _ h => h) (by rfl) HS.out ?_ ?_
    rotate_left
    · intro wx hSx
      exact (by refine yield_fr _ (.tmp 37) ?_ a 4 ?_ (run_load_fr wx a 4 69 pa _ (HPA.out wx hSx) Tryz.underlying69 rfl HYA.out) <;> rfl)
    simp only [Act.put, List.setIfInBounds_toArray, List.set_cons_zero, List.set_cons_succ]
    refine takeD (i := 25) (some 39) (v := ?_) rfl rfl (by kernel_rfl) (by kernel_rfl) (by kernel_rfl) (fun _ _ _ h => h) (by rfl) HS.out ?_ ?_
    rotate_left
    · intro wx hSx
      clear hSx
      go_simp
      try (with_reducible rfl)
    simp only [Act.put, List.setIfInBounds_toArray, List.set_cons_zero, List.set_cons_succ]
    refine takeD (i := 26) (some 40) (v := ?_) rfl rfl (by kernel_rfl) (by kernel_rfl) (by kernel_rfl) (fun _ _ _ h => h) (by rfl) HS.out ?_ ?_
    rotate_left
    · intro wx hSx
      clear hSx
      go_simp
      try (with_reducible rfl)
    simp only [Act.put, List.setIfInBounds_toArray, List.set_cons_zero, List.set_cons_succ]
    refine takeD (i := 27) (some 41) (v := ?_) rfl rfl (by kernel_rfl) (by kernel_rfl) (by kernel_rfl) (fun _ _ _ h => h) (by rfl) HS.out ?_ ?_
    rotate_left
    · intro wx hSx
      clear hSx
      go_simp
      try (with_reducible rfl)
    simp only [Act.put, List.setIfInBounds_toArray, List.set_cons_zero, List.set_cons_succ]
    refine takeD (i := 28) (some 42) (v := ?_) rfl rfl (by kernel_rfl) (by kernel_rfl) (by kernel_rfl) (fun _ _ _ h => h) (by rfl) HS.out ?_ ?_
    rotate_left
    · intro wx hSx
      exact (by refine yield_fr _ (.tmp 41) ?_ b 4 ?_ (run_load_fr wx b 4 69 pb _ (HPB.out wx hSx) Tryz.underlying69 rfl HYB.out) <;> rfl)
    simp only [Act.put, List.setIfInBounds_toArray, List.set_cons_zero, List.set_cons_succ]
    refine takeD (i := 29) (some 43) (v := ?_) rfl rfl (by kernel_rfl) (by kernel_rfl) (by kernel_rfl) (fun _ _ _ h => h) (by rfl) HS.out ?_ ?_
    rotate_left
    · intro wx hSx
      exact (by refine yield_eql7 69 69 (.tmp 38) (.tmp 42) ?_ pa pb ?_ ?_ (by kernel_rfl) _ (HEP.out wx) <;> rfl)
    simp only [Act.put, List.setIfInBounds_toArray, List.set_cons_zero, List.set_cons_succ]
    refine takeD (i := 30) (some 44) (v := ?_) rfl rfl (by kernel_rfl) (by kernel_rfl) (by kernel_rfl) (fun _ _ _ h => h) (by rfl) HS.out ?_ ?_
    rotate_left
    · intro wx hSx
      clear hSx
      go_simp
      try (with_reducible rfl)
    simp only [Act.put, List.setIfInBounds_toArray, List.set_cons_zero, List.set_cons_succ]
    refine takeD (i := 31) (some 45) (v := ?_) rfl rfl (by kernel_rfl) (by kernel_rfl) (by kernel_rfl) (fun _ _ _ h => h) (by rfl) HS.out ?_ ?_
    rotate_left
    · intro wx hSx
      clear hSx
      go_simp
      try (with_reducible rfl)
    simp only [Act.put, List.setIfInBounds_toArray, List.set_cons_zero, List.set_cons_succ]
    refine takeD (i := 32) (some 46) (v := ?_) rfl rfl (by kernel_rfl) (by kernel_rfl) (by kernel_rfl) (fun _ _ _ h => h) (by rfl) HS.out ?_ ?_
    rotate_left
    · intro wx hSx
      clear hSx
      go_simp
      try (with_reducible rfl)
    simp only [Act.put, List.setIfInBounds_toArray, List.set_cons_zero, List.set_cons_succ]
    refine takeD (i := 33) (some 47) (v := ?_) rfl rfl (by kernel_rfl) (by kernel_rfl) (by kernel_rfl) (fun _ _ _ h => h) (by rfl) HS.out ?_ ?_
    rotate_left
    · intro wx hSx
      clear hSx
      go_simp
      try (with_reducible rfl)
    simp only [Act.put, List.setIfInBounds_toArray, List.set_cons_zero, List.set_cons_succ]
    refine takeD (i := 34) (some 48) (v := ?_) rfl rfl (by kernel_rfl) (by kernel_rfl) (by kernel_rfl) (fun _ _ _ h => h) (by rfl) HS.out ?_ ?_
    rotate_left
    · intro wx hSx
      clear hSx
      go_simp
      try (with_reducible rfl)
    simp only [Act.put, List.setIfInBounds_toArray, List.set_cons_zero, List.set_cons_succ]
    refine takeD (i := 35) (some 49) (v := ?_) rfl rfl (by kernel_rfl) (by kernel_rfl) (by kernel_rfl) (fun _ _ _ h => h) (by rfl) HS.out ?_ ?_
    rotate_left
    · intro wx hSx
      have ka := HUA.out wx hSx
      clear hSx
      go_simp
      try (with_reducible rfl)
    simp only [Act.put, List.setIfInBounds_toArray, List.set_cons_zero, List.set_cons_succ]
    refine takeD (i := 36) (some 50) (v := ?_) rfl rfl (by kernel_rfl) (by kernel_rfl) (by kernel_rfl) (fun _ _ _ h => h) (by rfl) HS.out ?_ ?_
    rotate_left
    · intro wx hSx
      clear hSx
      go_simp
      try (with_reducible rfl)
    simp only [Act.put, List.setIfInBounds_toArray, List.set_cons_zero, List.set_cons_succ]
    refine takeD (i := 37) (some 51) (v := ?_) rfl rfl (by kernel_rfl) (by kernel_rfl) (by kernel_rfl) (fun _ _ _ h => h) (by rfl) HS.out ?_ ?_
    rotate_left
    · intro wx hSx
      clear hSx
      go_simp
      try (with_reducible rfl)
    simp only [Act.put, List.setIfInBounds_toArray, List.set_cons_zero, List.set_cons_succ]
    refine takeD (i := 38) (some 52) (v := ?_) rfl rfl (by kernel_rfl) (by kernel_rfl) (by kernel_rfl) (fun _ _ _ h => h) (by rfl) HS.out ?_ ?_
    rotate_left
    · intro wx hSx
      clear hSx
      go_simp
      try (with_reducible rfl)
    simp only [Act.put, List.setIfInBounds_toArray, List.set_cons_zero, List.set_cons_succ]
    refine takeD (i := 39) (some 53) (v := ?_) rfl rfl (by kernel_rfl) (by kernel_rfl) (by kernel_rfl) (fun _ _ _ h => h) (by rfl) HS.out ?_ ?_
    rotate_left
    · intro wx hSx
      have kb := HUB.out wx hSx
      clear hSx
      go_simp
      try (with_reducible rfl)
    simp only [Act.put, List.setIfInBounds_toArray, List.set_cons_zero, List.set_cons_succ]
    refine wpAnyH_ready (rs := [40]) (by kernel_rfl) (by simp) ?_
    refine AllReadyH.cons rfl (fun K hK => ?_) AllReadyH.nil
    go_simp
    (with_reducible refine (HEF.out _ HS.out).mono ?_)
    rintro e wd ⟨hbc, rp, rfl, hrp⟩
    have HBD := Lib.hid (HS.out.trans (hbc.mono HS.out.size))
    have HRP := Lib.hid hrp
    clear hbc hrp
    go_simp
    refine hK.out _ _ ?_ (fun hHeld => ?_)
    · exact HBD.out
    clear hHeld hK K
    try simp only [Act.put, List.setIfInBounds_toArray, List.set_cons_zero, List.set_cons_succ]
    replace HS := HBD
    refine takeD (i := 41) (some 55) (v := ?_) rfl rfl (by kernel_rfl) (by kernel_rfl) (by kernel_rfl) (fun _ _ _ h => h) (by rfl) HS.out ?_ ?_
    rotate_left
    · intro wx hSx
      clear hSx
      go_simp
      try (with_reducible rfl)
    simp only [Act.put, List.setIfInBounds_toArray, List.set_cons_zero, List.set_cons_succ]
    refine takeD (i := 42) (some 4) (v := ?_) rfl rfl (by kernel_rfl) (by kernel_rfl) (by kernel_rfl) (fun _ _ _ h => h) (by rfl) HS.out ?_ ?_
    rotate_left
    · intro wx hSx
      clear hSx
      go_simp
      try (with_reducible rfl)
    simp only [Act.put, List.setIfInBounds_toArray, List.set_cons_zero, List.set_cons_succ]
    refine wpAnyH_done (by kernel_rfl) ?_ _
    go_wp2
    go_ret
    exact ⟨HS.out, rp, rfl, by rw [HSP.out]; exact ⟨fun h => ⟨⟨rfl, (HRM.out.1 (by first | rfl | trivial)).2⟩, HCE.out.symm, HPE.out.symm, HRP.out.1 h⟩, fun h => HRP.out.2 h.2.2.2⟩⟩
theorem sameP_iff (h1 : st.us.length = ul.length) (h2 : su.us.length = um.length) : SameP st su ul.length um.length ↔ SameB st su := by
  unfold SameP SameB
  rw [eqCp_iff, P5.eq_both, h1, h2]
  constructor
  · rintro ⟨⟨_, a, b⟩, c, d, e, f⟩; exact ⟨e, c, d, a, b, f⟩
  · rintro ⟨e, c, d, a, b, f⟩; exact ⟨⟨rfl, a, b⟩, c, d, e, f⟩
theorem progSame7_is (H : BusP w a K g vp ul st) (I : BusP w b L h vq um su) : Calls Tryz.prog 19 #[.pointer (some ⟨a, 0, none⟩), .pointer (some ⟨b, 0, none⟩)] w (SameE7 w (SameB st su)) :=
  (progSame7_any H I).mono fun e w' ⟨hb, r, he, hr⟩ => ⟨hb, r, he, hr.trans (sameP_iff H.len I.len)⟩
end
theorem progSame7_nil (w : World) : Calls Tryz.prog 19 #[.pointer none, .pointer none] w fun e w' => e = .returned (.bool true) ∧ w = w' := by
  go_enter Tryz.func19, Tryz.ntmps19
  go_wp2
  go_ret
  exact ⟨rfl, rfl⟩
theorem progSame7_left (w : World) (a : Addr) : Calls Tryz.prog 19 #[.pointer none, .pointer (some a)] w fun e w' => e = .returned (.bool false) ∧ w = w' := by
  have q1 : ((none : Option Addr) == some a) = false := rfl
  have q2 : ((some a : Option Addr) == none) = false := rfl
  have q3 : ∀ w, (binOp .eql 22 (.pointer none) (.pointer (some a))).run Tryz.prog w = .ok (.bool false) w := fun _ => by first | kernel_rfl | rfl
  go_enter Tryz.func19, Tryz.ntmps19
  go_wp2
  go_ret
  exact ⟨rfl, rfl⟩
theorem progSame7_right (w : World) (a : Addr) : Calls Tryz.prog 19 #[.pointer (some a), .pointer none] w fun e w' => e = .returned (.bool false) ∧ w = w' := by
  have q1 : ((none : Option Addr) == some a) = false := rfl
  have q2 : ((some a : Option Addr) == none) = false := rfl
  have q3 : ∀ w, (binOp .eql 22 (.pointer none) (.pointer (some a))).run Tryz.prog w = .ok (.bool false) w := fun _ => by first | kernel_rfl | rfl
  go_enter Tryz.func19, Tryz.ntmps19
  go_wp2
  go_ret
  exact ⟨rfl, rfl⟩
end Go.Proofs.YtbcnkhfpogglmaaGreatDoor

namespace Go.Proofs.YtbcnkhfpogglmaaGreatDoor
open Go.RowKit
set_option linter.unusedVariables false
set_option maxRecDepth 100000

/-- A pair of one state, or two that are none. -/
def PairV (w : World) (F : Nat → Prop) (va vc : Value) (N : Nat) : Prop :=
  (∀ i, TabB i → ¬ F i) ∧ (∀ i, F i → i < w.heap.size) ∧ ((va = .pointer none ∧ vc = .pointer none) ∨ ∃ b d st, va = .pointer (some ⟨b, 0, none⟩) ∧ vc = .pointer (some ⟨d, 0, none⟩) ∧ Two w F b d N st st)
/-- Two pairs, apart. -/
def Quad (w0 w : World) (va vc vb vd : Value) (N M : Nat) : Prop :=
  Below w0.heap.size w0 w ∧ ∃ F G, PairV w F va vc N ∧ PairV w G vb vd M ∧ (∀ i, F i → ¬ G i) ∧ ∀ i, (F i ∨ G i) → w0.heap.size ≤ i
section
variable {w0 w w' : World} {va vc vb vd : Value} {N M : Nat} {F G : Nat → Prop}
theorem PairV.below (h : PairV w F va vc N) (o : Below w.heap.size w w') : PairV w' F va vc N := by
  obtain ⟨tb, lt, h⟩ := h
  refine ⟨tb, fun i hi => Nat.lt_of_lt_of_le (lt i hi) o.size, ?_⟩
  rcases h with h | ⟨b, d, st, h1, h2, h3⟩
  · exact .inl h
  · exact .inr ⟨b, d, st, h1, h2, h3.below o⟩
theorem PairV.keeps (h : PairV w G va vc N) (o : Only F w w') (hF : ∀ i, G i ∨ TabB i → ¬ F i) : PairV w' G va vc N := by
  obtain ⟨tb, lt, h⟩ := h
  refine ⟨tb, fun i hi => Nat.lt_of_lt_of_le (lt i hi) o.size, ?_⟩
  rcases h with h | ⟨b, d, st, h1, h2, h3⟩
  · exact .inl h
  · exact .inr ⟨b, d, st, h1, h2, h3.keeps o hF⟩
theorem PairV.both (h : PairV w F va vc N) (hN : N < 900000) (x : ActV) (ha : In64 x.a) (hn : In63 x.n) (hv : In64 x.v) (hi : In63 x.i) : Calls Tryz.prog 21 #[va, vc, actV x] w fun e w' => e = .returned (.bool true) ∧ ∃ F', NewF w w' F F' ∧ PairV w' F' va vc (N + 8) := by
  obtain ⟨tb, lt, h⟩ := h
  rcases h with ⟨rfl, rfl⟩ | ⟨b, d, st, rfl, rfl, h3⟩
  · exact (both_none w x ha hv).mono fun e w' ⟨he, hb⟩ => ⟨he, F, NewF.same F hb, tb, fun i hi => Nat.lt_of_lt_of_le (lt i hi) hb.size, .inl ⟨rfl, rfl⟩⟩
  · exact (both_any h3 hN x ha hn hv hi).mono fun e w' ⟨he, F', st', hnf, ht⟩ => ⟨he, F', hnf, ht.tab, ht.lt, .inr ⟨b, d, st', rfl, rfl, ht⟩⟩
theorem Quad.swap (h : Quad w0 w va vc vb vd N M) : Quad w0 w vb vd va vc M N := by
  obtain ⟨hb, F, G, h1, h2, h3, h4⟩ := h
  exact ⟨hb, G, F, h2, h1, fun i hg hf => h3 i hf hg, fun i hi => h4 i hi.symm⟩
theorem Quad.below (h : Quad w0 w va vc vb vd N M) (o : Below w.heap.size w w') : Quad w0 w' va vc vb vd N M := by
  obtain ⟨hb, F, G, h1, h2, h3, h4⟩ := h
  exact ⟨hb.trans (o.mono hb.size), F, G, h1.below o, h2.below o, h3, h4⟩
theorem Quad.both (h : Quad w0 w va vc vb vd N M) (hN : N < 900000) (x : ActV) (ha : In64 x.a) (hn : In63 x.n) (hv : In64 x.v) (hi : In63 x.i) : Calls Tryz.prog 21 #[va, vc, actV x] w fun e w' => e = .returned (.bool true) ∧ Quad w0 w' va vc vb vd (N + 8) M := by
  obtain ⟨hb, F, G, h1, h2, h3, h4⟩ := h
  refine (h1.both hN x ha hn hv hi).mono fun e w' k => ?_
  obtain ⟨he, F', hnf, ht⟩ := k
  have hh := NewF.bel hb hnf (fun i hi => h4 i (.inl hi))
  refine ⟨he, hh.1, F', G, ht, h2.keeps hnf.1 fun i hi hf => ?_, fun i hi hg => ?_, fun i hi => ?_⟩
  · rcases hi with a | a
    · exact h3 i hf a
    · exact h1.1 i a hf
  · rcases hnf.2 i hi with a | a
    · exact h3 i a hg
    · have := h2.2.1 i hg; omega
  · rcases hi with a | a
    · exact hh.2 i a
    · exact h4 i (.inr a)
theorem Quad.sames (h : Quad w0 w va vc vb vd N M) : ∃ P : Prop, (∀ wx, Below w.heap.size w wx → Calls Tryz.prog 19 #[va, vb] wx (SameE7 wx P)) ∧ (∀ wx, Below w.heap.size w wx → Calls Tryz.prog 24 #[vc, vd] wx (SameE7 wx P)) := by
  obtain ⟨hb, F, G, h1, h2, h3, h4⟩ := h
  obtain ⟨_, _, h1⟩ := h1
  obtain ⟨_, _, h2⟩ := h2
  rcases h1 with ⟨rfl, rfl⟩ | ⟨b, d, st, rfl, rfl, t1⟩ <;> rcases h2 with ⟨rfl, rfl⟩ | ⟨b2, d2, su, rfl, rfl, t2⟩
  · exact ⟨True, fun wx _ => (progSame7_nil wx).mono fun e w' ⟨he, hw⟩ => by subst hw; exact ⟨Below.refl _ _, true, he, by simp⟩, fun wx _ => (refSame7_nil wx).mono fun e w' ⟨he, hw⟩ => by subst hw; exact ⟨Below.refl _ _, true, he, by simp⟩⟩
  · exact ⟨False, fun wx _ => (progSame7_left wx _).mono fun e w' ⟨he, hw⟩ => by subst hw; exact ⟨Below.refl _ _, false, he, by simp⟩, fun wx _ => (refSame7_left wx _).mono fun e w' ⟨he, hw⟩ => by subst hw; exact ⟨Below.refl _ _, false, he, by simp⟩⟩
  · exact ⟨False, fun wx _ => (progSame7_right wx _).mono fun e w' ⟨he, hw⟩ => by subst hw; exact ⟨Below.refl _ _, false, he, by simp⟩, fun wx _ => (refSame7_right wx _).mono fun e w' ⟨he, hw⟩ => by subst hw; exact ⟨Below.refl _ _, false, he, by simp⟩⟩
  · refine ⟨SameB st su, fun wx o => ?_, fun wx o => ?_⟩
    · obtain ⟨g, K, vp, ul, h, L, vq, um, P, R, _⟩ := t1.below o
      obtain ⟨g', K', vp', ul', h', L', vq', um', P', R', _⟩ := t2.below o
      exact progSame7_is P P'
    · obtain ⟨g, K, vp, ul, h, L, vq, um, P, R, _⟩ := t1.below o
      obtain ⟨g', K', vp', ul', h', L', vq', um', P', R', _⟩ := t2.below o
      exact refSame7_any R R'
theorem eqQ_self (p : P5.PS) : P5.eqR p p = true := by
  rw [← P5.eq_both]; unfold P5.eqQ; simp
theorem sameB_self {w : World} {b g : Nat} {K : Nat → Nat} {vp : Value} {ul : List Nat} {st : BS} (P : BusP w b K g vp ul st) : SameB st st :=
  ⟨rfl, rfl, eqQ_self _, rfl, fun _ => rfl, fun j hj => by unfold U6.sameU U6.regEq; simp⟩
theorem Quad.twin (h : Quad w0 w va vc vb vd N M) : Calls Tryz.prog 18 #[va] w fun e w' => ∃ vt, e = .returned vt ∧ Below w.heap.size w w' ∧ ∀ wx, Below w'.heap.size w' wx → Calls Tryz.prog 19 #[va, vt] wx fun e w'' => e = .returned (.bool true) ∧ Below wx.heap.size wx w'' := by
  obtain ⟨hb, F, G, h1, h2, h3, h4⟩ := h
  obtain ⟨_, _, h1⟩ := h1
  rcases h1 with ⟨rfl, rfl⟩ | ⟨b, d, st, rfl, rfl, t1⟩
  · exact (twin_none_bus w).mono fun e w' ⟨he, hw⟩ => by subst hw; exact ⟨_, he, Below.refl _ _, fun wx _ => (progSame7_nil wx).mono fun e w' ⟨he, hw⟩ => by subst hw; exact ⟨he, Below.refl _ _⟩⟩
  · obtain ⟨g, K, vp, ul, h, L, vq, um, P, R, _⟩ := t1
    refine (busTwin_any P).mono fun e w' k => ?_
    obtain ⟨o, b2, K2, g2, vp2, ul2, he, hk, P2⟩ := k
    refine ⟨_, he, o, fun wx hx => (progSame7_is ((P.below o).below hx) (P2.below hx)).mono fun e w'' k => ?_⟩
    obtain ⟨hb', r, he', hr⟩ := k
    have : r = true := hr.2 (sameB_self P)
    subst this
    exact ⟨he', hb'⟩

/-! ### made -/
def NewPE (w : World) (size n : Int) (e : Ending) (w' : World) : Prop := ∃ va r, e = .returned (.tuple #[va, .int .i64 r]) ∧ Below w.heap.size w w' ∧ ((busOk size n = false ∧ va = .pointer none) ∨ (busOk size n = true ∧ ∃ b K g vp ul, va = .pointer (some ⟨b, 0, none⟩) ∧ (∀ i, ¬ K i = 0 → w.heap.size ≤ i) ∧ BusP w' b K g vp ul (bs0 size n.toNat)))
def NewRE (w : World) (size n : Int) (e : Ending) (w' : World) : Prop := ∃ va r, e = .returned (.tuple #[va, .int .i64 r]) ∧ Below w.heap.size w w' ∧ ((busOk size n = false ∧ va = .pointer none) ∨ (busOk size n = true ∧ ∃ b K g vp ul, va = .pointer (some ⟨b, 0, none⟩) ∧ (∀ i, ¬ K i = 0 → w.heap.size ≤ i) ∧ BusR w' b K g vp ul 0 (bs0 size n.toNat)))
theorem newP_any (w : World) (tabs : Tabs w) (size n : Int) (hs : In64 size) : Calls Tryz.prog 7 #[.int .u64 size, .int .i64 n] w (NewPE w size n) :=
  (busNew_any w tabs size n hs).mono fun e w' k => by
    obtain ⟨hb, ⟨h1, h2⟩ | ⟨h1, b, K, g, vp, ul, h2, h3, h4⟩⟩ := k
    · exact ⟨_, _, h2, hb, .inl ⟨h1, rfl⟩⟩
    · exact ⟨_, _, h2, hb, .inr ⟨h1, b, K, g, vp, ul, rfl, h3, h4⟩⟩
theorem newR_any (w : World) (size n : Int) (hs : In64 size) : Calls Tryz.prog 20 #[.int .u64 size, .int .i64 n] w (NewRE w size n) :=
  (refNew7_any w size n hs).mono fun e w' k => by
    obtain ⟨hb, ⟨h1, h2⟩ | ⟨h1, b, K, g, vp, ul, h2, h3, h4⟩⟩ := k
    · exact ⟨_, _, h2, hb, .inl ⟨h1, rfl⟩⟩
    · exact ⟨_, _, h2, hb, .inr ⟨h1, b, K, g, vp, ul, rfl, h3, h4⟩⟩
/-- A pair out of what New told of either side, w1 to w2 and w3 to w4. -/
theorem PairV.made {w1 w2 w3 w4 w5 : World} {size n : Int} {va vc : Value} (tabs : Tabs w1)
    (ha : (busOk size n = false ∧ va = .pointer none) ∨ (busOk size n = true ∧ ∃ b K g vp ul, va = .pointer (some ⟨b, 0, none⟩) ∧ (∀ i, ¬ K i = 0 → w1.heap.size ≤ i) ∧ BusP w2 b K g vp ul (bs0 size n.toNat)))
    (hc : (busOk size n = false ∧ vc = .pointer none) ∨ (busOk size n = true ∧ ∃ b K g vp ul, vc = .pointer (some ⟨b, 0, none⟩) ∧ (∀ i, ¬ K i = 0 → w3.heap.size ≤ i) ∧ BusR w4 b K g vp ul 0 (bs0 size n.toNat)))
    (o12 : Below w1.heap.size w1 w2) (o23 : Below w2.heap.size w2 w3) (o34 : Below w3.heap.size w3 w4) (o45 : Below w4.heap.size w4 w5) :
    ∃ F, PairV w5 F va vc 0 ∧ ∀ i, F i → (w1.heap.size ≤ i ∧ i < w2.heap.size) ∨ (w3.heap.size ≤ i ∧ i < w4.heap.size) := by
  have s12 := o12.size; have s23 := o23.size; have s34 := o34.size; have s45 := o45.size
  rcases ha with ⟨e1, rfl⟩ | ⟨e1, b, K, g, vp, ul, rfl, hk, P⟩
  · rcases hc with ⟨e2, rfl⟩ | ⟨e2, _⟩
    · exact ⟨fun _ => False, ⟨fun _ _ h => h, fun _ h => h.elim, .inl ⟨rfl, rfl⟩⟩, fun _ h => h.elim⟩
    · rw [e1] at e2; cases e2
  · rcases hc with ⟨e2, _⟩ | ⟨e2, d, L, h, vq, um, rfl, hl, R⟩
    · rw [e1] at e2; cases e2
    have ap : ∀ i, ¬ K i = 0 → L i = 0 := fun i hi => by
      by_cases z : L i = 0
      · exact z
      · have := P.lt i hi; have := hl i z; omega
    have tb : ∀ i, TabB i → ¬ (¬ K i = 0 ∨ ¬ L i = 0) := fun i hi hx => by
      rcases hx with a | a
      · exact a (P.kt i hi)
      · have := tabs.lt hi; have := hl i a; omega
    have lt : ∀ i, (¬ K i = 0 ∨ ¬ L i = 0) → i < w5.heap.size := fun i hi => by
      rcases hi with a | a
      · have := P.lt i a; omega
      · have := R.lt i a; omega
    refine ⟨fun i => ¬ K i = 0 ∨ ¬ L i = 0, ⟨tb, lt, .inr ⟨b, d, _, rfl, rfl, g, K, vp, ul, h, L, vq, um, ((P.below o23).below o34).below o45, R.below o45, ap, tb, fun i hi => hi, lt⟩⟩, fun i hi => ?_⟩
    rcases hi with a | a
    · exact .inl ⟨hk i a, P.lt i a⟩
    · exact .inr ⟨hl i a, R.lt i a⟩
end
end Go.Proofs.YtbcnkhfpogglmaaGreatDoor

namespace Go.Proofs.YtbcnkhfpogglmaaGreatDoor
open Go.RowKit
set_option linter.unusedVariables false
set_option maxRecDepth 100000

/-- A bus that the law made itself: it stands in the world w, nothing that was there when the law began has turned. -/
def OwnB (w0 : World) (b g : Nat) (vp : Value) (ul : List Nat) (st : BS) (w : World) : Prop := Below w0.heap.size w0 w ∧ ∃ K, (∀ i, ¬ K i = 0 → w0.heap.size ≤ i) ∧ BusP w b K g vp ul st
section
variable {w0 w w' : World} {b g : Nat} {vp : Value} {ul : List Nat} {st : BS}
theorem OwnB.out (h : OwnB w0 b g vp ul st w) : Below w0.heap.size w0 w := h.1
theorem OwnB.after {K : Nat → Nat} {r : Value} {st' : BS} {e : Ending} (hb : Below w0.heap.size w0 w) (hk : ∀ i, ¬ K i = 0 → w0.heap.size ≤ i) (hp : BusP w b K g vp ul st) (k : BusEnd w b K g vp ul r st' e w') : OwnB w0 b g vp ul st' w' := by
  obtain ⟨_, o, K', hg, hp'⟩ := k
  refine ⟨hb.trans (o.below (fun i hi => hk i hi) hb.size), K', fun i hi => ?_, hp'⟩
  by_cases c : i < w.heap.size
  · exact hk i (by rw [← hg i c]; exact hi)
  · have := hb.size; omega
def EndB (w0 : World) (b g : Nat) (vp : Value) (ul : List Nat) (r : Value) (st' : BS) (e : Ending) (w' : World) : Prop := e = .returned r ∧ OwnB w0 b g vp ul st' w'
theorem ownWrite (h : OwnB w0 b g vp ul st w) (a n v : Int) (ha : In64 a) (hv : In64 v) : Calls Tryz.prog 9 #[.pointer (some ⟨b, 0, none⟩), .int .u64 a, .int .i64 n, .int .u64 v] w (EndB w0 b g vp ul (.bool (busWr st a n v).1) (busWr st a n v).2) := by
  obtain ⟨hb, K, hk, hp⟩ := h
  exact (busWrite_any hp a n v ha hv).mono fun e w' k => ⟨k.1, OwnB.after hb hk hp k⟩
theorem ownRead (h : OwnB w0 b g vp ul st w) (a n : Int) (ha : In64 a) : Calls Tryz.prog 8 #[.pointer (some ⟨b, 0, none⟩), .int .u64 a, .int .i64 n] w (EndB w0 b g vp ul (.tuple #[.int .u64 (busRd st a n).1, .bool (busRd st a n).2.1]) (busRd st a n).2.2) := by
  obtain ⟨hb, K, hk, hp⟩ := h
  exact (busRead_any hp a n ha).mono fun e w' k => ⟨k.1, OwnB.after hb hk hp k⟩
theorem ownFeed (h : OwnB w0 b g vp ul st w) (i x : Int) (hx : 0 ≤ x ∧ x < 256) : Calls Tryz.prog 13 #[.pointer (some ⟨b, 0, none⟩), .int .i64 i, .int .u8 x] w (EndB w0 b g vp ul (.bool (busFd st i x).1) (busFd st i x).2) := by
  obtain ⟨hb, K, hk, hp⟩ := h
  exact (busFeed_any hp i x hx).mono fun e w' k => ⟨k.1, OwnB.after hb hk hp k⟩
/-- New, where it makes one. -/
theorem ownNew (w0 w : World) (hb : Below w0.heap.size w0 w) (tabs : Tabs w) (size n : Int) (hs : In64 size) (hok : busOk size n = true) : Calls Tryz.prog 7 #[.int .u64 size, .int .i64 n] w fun e w' => ∃ b g vp ul, e = .returned (.tuple #[.pointer (some ⟨b, 0, none⟩), .int .i64 0]) ∧ OwnB w0 b g vp ul (bs0 size n.toNat) w' :=
  (busNew_any w tabs size n hs).mono fun e w' k => by
    obtain ⟨h1, h2 | ⟨_, b, K, g, vp, ul, he, hk, hp⟩⟩ := k
    · rw [hok] at h2; cases h2.1
    · exact ⟨b, g, vp, ul, he, hb.trans (h1.mono hb.size), K, fun i hi => Nat.le_trans hb.size (hk i hi), hp⟩
end

/-! ### awake -/
def aw1 : BS := (busWr (bs0 4096 1) 2147487736 8 7).2
def aw2 : BS := (busWr aw1 268435457 1 1).2
def aw3 : BS := (busFd aw2 0 65).2
def aw4 : BS := (busWr aw3 201326632 4 1).2
def aw5 : BS := (busWr aw4 201334912 4 1024).2
def aw6 : BS := (busRd aw5 2147487736 8).2.2
theorem aw_ok : (busWr (bs0 4096 1) 2147487736 8 7).1 = true ∧ (busWr aw1 268435457 1 1).1 = true ∧ (busFd aw2 0 65).1 = true ∧ (busWr aw3 201326632 4 1).1 = true ∧ (busWr aw4 201334912 4 1024).1 = true ∧ (busRd aw5 2147487736 8).1 = 7 ∧ (busRd aw5 2147487736 8).2.1 = true ∧ (busRd aw6 203427844 4).1 = 10 ∧ (busRd aw6 203427844 4).2.1 = true := by
  refine ⟨?_, ?_, ?_, ?_, ?_, ?_, ?_, ?_, ?_⟩ <;> kernel_rfl

end Go.Proofs.YtbcnkhfpogglmaaGreatDoor

namespace Go.Proofs.YtbcnkhfpogglmaaGreatDoor
open Go.RowKit
set_option linter.unusedVariables false
set_option maxRecDepth 100000

set_option maxHeartbeats 2000000 in
theorem awake_any (w : World) (tabs : Tabs w) : Calls Tryz.prog 15 #[] w fun e w' => e = .returned (.bool true) ∧ Below w.heap.size w w' := by
  have HN := Lib.hid (ownNew w w (Below.refl _ _) tabs 4096 1 (by unfold In64; omega) (by decide))
  obtain ⟨r1, r2, r3, r4, r5, r6, r7, r8, r9⟩ := aw_ok
  have R1 := Lib.hid r1
  have R2 := Lib.hid r2
  have R3 := Lib.hid r3
  have R4 := Lib.hid r4
  have R5 := Lib.hid r5
  have R6 := Lib.hid r6
  have R7 := Lib.hid r7
  have R8 := Lib.hid r8
  have R9 := Lib.hid r9
  clear r1 r2 r3 r4 r5 r6 r7 r8 r9 tabs
  go_enter Tryz.func15, Tryz.ntmps15
  go_wp2_with fail
  (with_reducible refine HN.out.mono ?_)
  rintro e w0 ⟨b, g, vp, ul, rfl, ho⟩
  have HO0 : Hid (OwnB w b g vp ul (bs0 4096 1) w0) := Lib.hid ho
  clear ho HN
  go_wp2_with fail
  (with_reducible refine (ownWrite HO0.out 2147487736 8 7 (by unfold In64; omega) (by unfold In64; omega)).mono ?_)
  rintro e w1 ⟨rfl, ho⟩
  have HO1 : Hid (OwnB w b g vp ul aw1 w1) := Lib.hid ho
  clear ho
  rw [R1.out]
  go_wp2_with fail
  (with_reducible refine (ownWrite HO1.out 268435457 1 1 (by unfold In64; omega) (by unfold In64; omega)).mono ?_)
  rintro e w2 ⟨rfl, ho⟩
  have HO2 : Hid (OwnB w b g vp ul aw2 w2) := Lib.hid ho
  clear ho
  rw [R2.out]
  go_wp2_with fail
  (with_reducible refine (ownFeed HO2.out 0 65 (by omega)).mono ?_)
  rintro e w3 ⟨rfl, ho⟩
  have HO3 : Hid (OwnB w b g vp ul aw3 w3) := Lib.hid ho
  clear ho
  rw [R3.out]
  go_wp2_with fail
  (with_reducible refine (ownWrite HO3.out 201326632 4 1 (by unfold In64; omega) (by unfold In64; omega)).mono ?_)
  rintro e w4 ⟨rfl, ho⟩
  have HO4 : Hid (OwnB w b g vp ul aw4 w4) := Lib.hid ho
  clear ho
  rw [R4.out]
  go_wp2_with fail
  (with_reducible refine (ownWrite HO4.out 201334912 4 1024 (by unfold In64; omega) (by unfold In64; omega)).mono ?_)
  rintro e w5 ⟨rfl, ho⟩
  have HO5 : Hid (OwnB w b g vp ul aw5 w5) := Lib.hid ho
  clear ho
  rw [R5.out]
  go_wp2_with fail
  (with_reducible refine (ownRead HO5.out 2147487736 8 (by unfold In64; omega)).mono ?_)
  rintro e w6 ⟨rfl, ho⟩
  have HO6 : Hid (OwnB w b g vp ul aw6 w6) := Lib.hid ho
  clear ho
  rw [R6.out, R7.out]
  go_wp2_with fail
  (with_reducible refine (ownRead HO6.out 203427844 4 (by unfold In64; omega)).mono ?_)
  rintro e w7 ⟨rfl, ho⟩
  have HO7 : Hid (OwnB w b g vp ul (busRd aw6 203427844 4).2.2 w7) := Lib.hid ho
  clear ho
  rw [R8.out, R9.out]
  go_wp2
  go_ret
  exact ⟨rfl, HO7.out.out⟩

end Go.Proofs.YtbcnkhfpogglmaaGreatDoor

namespace Go.Proofs.YtbcnkhfpogglmaaGreatDoor
open Go.RowKit
set_option linter.unusedVariables false
set_option maxRecDepth 100000

theorem long_or {a b : Nat} (h : ¬ (a ≤ 60 ∧ b ≤ 60)) : 60 < a ∨ (¬ 60 < a ∧ 60 < b) := by omega
set_option maxRecDepth 100000 in
set_option maxHeartbeats 16000000 in
theorem busSame_walk (size n size2 n2 : Int) (l : Value) (xs : List ActV) (m : Value) (ys : List ActV) (w : World) (hsz : In64 size) (hn : In63 n) (hsz2 : In64 size2) (hn2 : In63 n2) (hl : ActsIn w.heap.size w l xs) (hm : ActsIn w.heap.size w m ys) (ht : Tabs w) :
    Calls Tryz.prog 5 #[.int .u64 size, .int .i64 n, .int .u64 size2, .int .i64 n2, l, m] w fun e w' => e = .returned (.bool true) ∧ Below w.heap.size w w' := by
  have HL := Lib.hid hl
  have HM := Lib.hid hm
  have HT := Lib.hid ht
  have HSZ := Lib.hid hsz
  have HSZ2 := Lib.hid hsz2
  obtain ⟨al, cl, rfl, hll, _⟩ := hl
  obtain ⟨am, cm, rfl, hmm, _⟩ := hm
  have hll2 : xs.length ≤ 9223372036854775807 := by unfold maxLen at hll; omega
  have hmm2 : ys.length ≤ 9223372036854775807 := by unfold maxLen at hmm; omega
  clear hll hmm ht hsz hn hsz2 hn2
  by_cases hx60 : xs.length ≤ 60 ∧ ys.length ≤ 60
  rotate_left
  · rcases long_or hx60 with h1 | ⟨h1, h2⟩
    · have hd : decide ((60 : Int) < (xs.length : Int)) = true := by rw [decide_eq_true_eq]; omega
      clear hx60
      go_enter Tryz.func5, Tryz.ntmps5
      go_wp2_with fail
      refine (awake_any _ HT.out).mono ?_
      rintro e w1 ⟨rfl, hb⟩
      have HB := Lib.hid hb
      clear hb
      go_wp2
      go_ret
      exact ⟨rfl, HB.out⟩
    · have hd : decide ((60 : Int) < (xs.length : Int)) = false := by rw [decide_eq_false_iff_not]; omega
      have hd2 : decide ((60 : Int) < (ys.length : Int)) = true := by rw [decide_eq_true_eq]; omega
      clear hx60 h1
      go_enter Tryz.func5, Tryz.ntmps5
      go_wp2_with fail
      refine (awake_any _ HT.out).mono ?_
      rintro e w1 ⟨rfl, hb⟩
      have HB := Lib.hid hb
      clear hb
      go_wp2
      go_ret
      exact ⟨rfl, HB.out⟩
  have hd : decide ((60 : Int) < (xs.length : Int)) = false := by rw [decide_eq_false_iff_not]; omega
  have hd2 : decide ((60 : Int) < (ys.length : Int)) = false := by rw [decide_eq_false_iff_not]; omega
  have hxl : xs.length ≤ 60 := hx60.1
  have hyl : ys.length ≤ 60 := hx60.2
  have hx60 := True.intro
  go_enter Tryz.func5, Tryz.ntmps5
  go_wp2_with fail
  refine (awake_any _ HT.out).mono ?_
  rintro e w1 ⟨rfl, hb⟩
  have HB := Lib.hid hb
  have HT1 := Lib.hid (HT.out.below hb)
  clear hb
  go_wp2_with fail
  refine (newP_any _ HT1.out size n HSZ.out).mono ?_
  rintro e w2 ⟨va, ra, rfl, ha⟩
  have HA := Lib.hid ha
  clear ha
  go_wp2_with fail
  refine (newP_any _ (HT1.out.below HA.out.1) size2 n2 HSZ2.out).mono ?_
  rintro e w3 ⟨vb, rb, rfl, hb⟩
  have HBB := Lib.hid hb
  clear hb
  go_wp2_with fail
  refine (newR_any _ size n HSZ.out).mono ?_
  rintro e w4 ⟨vc, rc, rfl, hc⟩
  have HCC := Lib.hid hc
  clear hc
  go_wp2_with fail
  refine (newR_any _ size2 n2 HSZ2.out).mono ?_
  rintro e w5 ⟨vd, rd, rfl, hd5⟩
  have HDD := Lib.hid hd5
  clear hd5
  have HQ0 : Hid (Quad w w5 va vc vb vd 0 0) := Lib.hid (by
    have oA := HA.out.1; have oB := HBB.out.1; have oC := HCC.out.1; have oD := HDD.out.1
    have o24 := oB
    obtain ⟨F, pF, bF⟩ := PairV.made (w5 := w5) HT1.out HA.out.2 HCC.out.2 oA oB oC oD
    obtain ⟨G, pG, bG⟩ := PairV.made (w5 := w5) (HT1.out.below oA) HBB.out.2 HDD.out.2 oB oC oD (Below.refl _ _)
    have s0 := HB.out.size; have s1 := oA.size; have s2 := oB.size; have s3 := oC.size; have s4 := oD.size
    refine ⟨(((HB.out.trans (oA.mono s0)).trans (oB.mono (by omega))).trans (oC.mono (by omega))).trans (oD.mono (by omega)), F, G, pF, pG, fun i hf hg => ?_, fun i hi => ?_⟩
    · have := bF i hf; have := bG i hg; omega
    · rcases hi with a | a
      · have := bF i a; omega
      · have := bG i a; omega)
  clear HA HBB HCC HDD HT1 HB
  go_wp2
  go_loopw [21] (fun i wr => ∃ k : Nat, k ≤ xs.length ∧ i = .int .i64 k ∧ ∃ N, N ≤ 8 * k ∧ Quad w wr va vc vb vd N 0) (fun i _ => xs.length - (intOf i).toNat)
  case atStart => exact ⟨0, Nat.zero_le _, rfl, 0, by omega, HQ0.out⟩
  case round =>
    obtain ⟨k, hk, rfl, N, hN, hq⟩ := hrel
    have HQ := Lib.hid hq
    have hbr := hq.1
    clear hq
    by_cases hlt : k < xs.length
    · obtain ⟨_, _, hv, _, hx⟩ := HL.out
      injection hv with hv1 hv2 hv3
      subst hv1 hv3
      rcases hx with hx | ⟨bb, off, rfl, hbb, hc⟩
      · rw [hx] at hlt; simp at hlt
      obtain ⟨c0, c1, c2, c3, c4, r0, ra, rn, rv, ri⟩ := act_at ((hc k hlt).below hbr hbb)
      have HBOTH := Lib.hid (HQ.out.both (by omega) xs[k] ra rn rv ri)
      clear hc hbr hv2 r0 ra rn rv ri hx60
      generalize xs[k] = x at *
      obtain ⟨xd, xa, xn, xv, xi⟩ := x
      simp only at c0 c1 c2 c3 c4 HBOTH
      go_wp2_with fail
      (with_reducible refine (HBOTH.out).mono ?_)
      rintro e w7 ⟨rfl, hQ7⟩
      have HQ7 := Lib.hid hQ7
      have hN7 : N + 8 ≤ 8 * (k + 1) := by omega
      clear c0 c1 c2 c3 c4 hQ7 HBOTH HQ
      go_wp2
      go_roundw
      case rel => exact ⟨k + 1, by omega, by go_num, N + 8, hN7, HQ7.out⟩
      case measure => simp [intOf]; omega
    · have HQ1 := HQ
      clear hbr HQ
      obtain ⟨wE, rfl⟩ : ∃ wE : World, wE = wr := ⟨_, rfl⟩
      obtain ⟨N1, rfl⟩ : ∃ N1, N1 = N := ⟨_, rfl⟩
      have hN1 : N1 ≤ 480 := by omega
      go_wp2
      go_loopw [22] (fun i wr => ∃ k : Nat, k ≤ ys.length ∧ i = .int .i64 k ∧ ∃ N, N ≤ 8 * k ∧ Quad w wr vb vd va vc N N1) (fun i _ => ys.length - (intOf i).toNat)
      case atStart => exact ⟨0, Nat.zero_le _, rfl, 0, by omega, HQ1.out.swap⟩
      case round =>
        obtain ⟨k, hk, rfl, N, hN, hq⟩ := hrel
        have HQ := Lib.hid hq
        have hbr := hq.1
        clear hq
        by_cases hlt : k < ys.length
        · obtain ⟨_, _, hv, _, hx⟩ := HM.out
          injection hv with hv1 hv2 hv3
          subst hv1 hv3
          rcases hx with hx | ⟨bb, off, rfl, hbb, hc⟩
          · rw [hx] at hlt; simp at hlt
          obtain ⟨c0, c1, c2, c3, c4, r0, ra, rn, rv, ri⟩ := act_at ((hc k hlt).below hbr hbb)
          have HBOTH := Lib.hid (HQ.out.both (by omega) ys[k] ra rn rv ri)
          clear hc hbr hv2 r0 ra rn rv ri hx60
          generalize ys[k] = x at *
          obtain ⟨xd, xa, xn, xv, xi⟩ := x
          simp only at c0 c1 c2 c3 c4 HBOTH
          go_wp2_with fail
          (with_reducible refine (HBOTH.out).mono ?_)
          rintro e w7 ⟨rfl, hQ7⟩
          have HQ7 := Lib.hid hQ7
          have hN7 : N + 8 ≤ 8 * (k + 1) := by omega
          clear c0 c1 c2 c3 c4 hQ7 HBOTH HQ
          go_wp2
          go_roundw
          case rel => exact ⟨k + 1, by omega, by go_num, N + 8, hN7, HQ7.out⟩
          case measure => simp [intOf]; omega
        · have HQ2 := HQ
          clear hbr HQ
          obtain ⟨P, h1, h2⟩ := HQ2.out.swap.sames
          have HS1 := Lib.hid h1
          have HS2 := Lib.hid h2
          clear h1 h2
          go_wp2_with fail
          (with_reducible refine (HS1.out _ (Below.refl _ _)).mono ?_)
          rintro e w8 ⟨hb8, r1, rfl, hr1⟩
          have HB8 := Lib.hid hb8
          have HR1 := Lib.hid hr1
          clear hb8 hr1
          go_wp2_with fail
          (with_reducible refine (HS2.out _ HB8.out).mono ?_)
          rintro e w9 ⟨hb8, r2, rfl, hr2⟩
          have HB9 := Lib.hid (HB8.out.trans (hb8.mono HB8.out.size))
          obtain rfl : r2 = r1 := by
            have := hr2.trans HR1.out.symm
            cases r1 <;> cases r2 <;> simp_all
          clear hb8 hr2 HR1 HB8
          have hrr : (r2 == r2) = true := by cases r2 <;> rfl
          have HTW := Lib.hid (HQ2.out.swap.below HB9.out).twin
          go_wp2_with fail
          (with_reducible refine (HTW.out).mono ?_)
          rintro e w10 ⟨vt, rfl, hb10, hst⟩
          have HB10 := Lib.hid (HB9.out.trans (hb10.mono HB9.out.size))
          have HST := Lib.hid (hst w10 (Below.refl _ _))
          clear hb10 hst HTW
          go_wp2_with fail
          (with_reducible refine (HST.out).mono ?_)
          rintro e w11 ⟨rfl, hb11⟩
          have HB11 := Lib.hid (HB10.out.trans (hb11.mono HB10.out.size))
          clear hb11
          go_wp2
          go_ret
          exact ⟨rfl, HQ2.out.1.trans (HB11.out.mono HQ2.out.1.size)⟩

end Go.Proofs.YtbcnkhfpogglmaaGreatDoor

namespace Go.Proofs.YtbcnkhfpogglmaaGreatDoor.P5
open Go.ChangeShapes Go.WideShapes Go.ChangeAt Go.RowKit
set_option linter.unusedVariables false
set_option maxRecDepth 100000

/-- The one listed variable. -/
abbrev laidT : List (String × DataW Unit) := [("mezzanine/plic.groups", Rows.laid_mezzanine_plic_groups)]
theorem gGroups : Tryz.prog.globalNamed "mezzanine/plic.groups" = some 0 := by kernel_rfl
theorem tGroups : (Tryz.prog.globals[0]?).map (·.type) = some 181 := by kernel_rfl
section
variable {H : Type} {enc : TypeId × Value → H} {w : World} {base : Nat} {spare : Nat → Bool} {held : Bool}
/-- A row of the table, read as its four numbers, has these cells. -/
theorem group_cells {n : Nat} {cs : List Value} {x : DataW H × List MemPlace} {a b c d : Int}
    (h : DataW.trod enc Tryz.prog w base spare held n 180 cs = some x) (hx : x.1 = .agg [.lit (.int .i64 a), .lit (.int .u64 b), .lit (.int .u64 c), .lit (.int .u64 d)]) :
    cs = [.int .i64 a, .int .u64 b, .int .u64 c, .int .u64 d] := by
  obtain ⟨xs, m, _, rfl, hl, hlen, hf⟩ := DataW.trod_struct Tryz.underlying180 h
  have hC : Tryz.prog.cellsOf 180 = 4 := by kernel_rfl
  rw [hC] at hl
  match cs, hl with
  | [v0, v1, v2, v3], _ =>
    have t0 := hf 0 _ rfl
    have t1 := hf 1 _ rfl
    have t2 := hf 2 _ rfl
    have t3 := hf 3 _ rfl
    match xs, hlen with
    | [x0, x1, x2, x3], _ =>
      obtain ⟨n0, e0, y0, _⟩ := DataW.trod_int Tryz.underlying161 (show DataW.trod enc Tryz.prog w base spare held m 161 [v0] = some x0 from t0)
      obtain ⟨n1, e1, y1, _⟩ := DataW.trod_int Tryz.underlying26 (show DataW.trod enc Tryz.prog w base spare held m 26 [v1] = some x1 from t1)
      obtain ⟨n2, e2, y2, _⟩ := DataW.trod_int Tryz.underlying26 (show DataW.trod enc Tryz.prog w base spare held m 26 [v2] = some x2 from t2)
      obtain ⟨n3, e3, y3, _⟩ := DataW.trod_int Tryz.underlying26 (show DataW.trod enc Tryz.prog w base spare held m 26 [v3] = some x3 from t3)
      simp at e0 e1 e2 e3
      subst e0 e1 e2 e3 y0 y1 y2 y3
      simp at hx
      obtain ⟨rfl, rfl, rfl, rfl⟩ := hx
      rfl
end
theorem list20 {l a b c d e : List Value} (hl : l.length = 20) (h0 : l.take 4 = a) (h1 : (l.drop 4).take 4 = b) (h2 : (l.drop 8).take 4 = c) (h3 : (l.drop 12).take 4 = d) (h4 : (l.drop 16).take 4 = e) : l = a ++ b ++ c ++ d ++ e := by
  subst h0 h1 h2 h3 h4
  match l, hl with
  | [_, _, _, _, _, _, _, _, _, _, _, _, _, _, _, _, _, _, _, _], _ => rfl
/-- What the condition gives. -/
theorem tab_of_laid {W : World} (h : laidMetH Tryz.prog laidT W) : Tab W := by
  rw [MakeChecks.laidMetH_plain _ _ _ (by kernel_rfl)] at h
  obtain ⟨ps, ⟨g0, t0, cs0, f0, p0, q0, hg0, ht0, hv0, hd0, _⟩, _, _⟩ := h
  obtain rfl := Option.some.inj (gGroups.symm.trans hg0)
  obtain rfl := Option.some.inj (tGroups.symm.trans ht0)
  obtain ⟨xs, m, _, hx, hl, hn, hel⟩ := DataW.trod_array Tryz.underlying181 hd0
  have c68 : Tryz.prog.cellsOf 180 = 4 := by kernel_rfl
  have c69 : Tryz.prog.cellsOf 181 = 20 := by kernel_rfl
  rw [c69] at hl
  rw [c68] at hel
  simp only [Prod.mk.injEq] at hx
  match xs, hn with
  | [x0, x1, x2, x3, x4], _ =>
    have hx1 := hx.1
    unfold Rows.laid_mezzanine_plic_groups at hx1
    simp only [List.map_cons, List.map_nil, DataW.agg.injEq, List.cons.injEq] at hx1
    obtain ⟨e0, e1, e2, e3, e4, _⟩ := hx1
    have k0 := group_cells (hel 0 (by decide)) e0.symm
    have k1 := group_cells (hel 1 (by decide)) e1.symm
    have k2 := group_cells (hel 2 (by decide)) e2.symm
    have k3 := group_cells (hel 3 (by decide)) e3.symm
    have k4 := group_cells (hel 4 (by decide)) e4.symm
    have hcs := list20 hl k0 k1 k2 k3 k4
    simp only [World.var?, gGroups, Option.bind_some] at hv0
    split at hv0
    · rename_i c t fr hb
      have hc := Option.some.inj hv0
      have hq : cs0 = tabQ := Array.ext' (by rw [hcs]; rfl)
      exact ⟨t, fr, by rw [hb, hc, hq]⟩
    · cases hv0

end Go.Proofs.YtbcnkhfpogglmaaGreatDoor.P5

namespace Go.Proofs.YtbcnkhfpogglmaaGreatDoor.U6
open Go.ChangeShapes Go.WideShapes Go.ChangeAt Go.RowKit
set_option linter.unusedVariables false
set_option maxRecDepth 100000

/-- The one listed variable. -/
abbrev laidT : List (String × DataW Unit) := [("mezzanine/uart.kept", Rows.laid_mezzanine_uart_kept)]
theorem gKept : Tryz.prog.globalNamed "mezzanine/uart.kept" = some 1 := by kernel_rfl
theorem tKept : (Tryz.prog.globals[1]?).map (·.type) = some 129 := by kernel_rfl
section
variable {H : Type} {enc : TypeId × Value → H} {w : World} {base : Nat} {spare : Nat → Bool} {held : Bool}
theorem byte_cell {n : Nat} {cs : List Value} {x : DataW H × List MemPlace} {a : Int} (hl : cs.length = 1) (h : DataW.trod enc Tryz.prog w base spare held n 5 cs = some x) (hx : x.1 = .lit (.int .u8 a)) : cs = [.int .u8 a] := by
  match cs, hl with
  | [v], _ =>
    obtain ⟨m, e, y, _⟩ := DataW.trod_int Tryz.underlying5 h
    simp at e
    subst e y
    simp at hx
    subst hx
    rfl
end
theorem list10 {l : List Value} {a : Nat → Value} (hl : l.length = 10) (h : ∀ i, i < 10 → (l.drop i).take 1 = [a i]) : l = (List.range 10).map a := by
  apply List.ext_getElem?
  intro i
  by_cases hi : i < 10
  · have h1 := h i hi
    have h2 : l[i]? = some (a i) := by
      have := congrArg (fun l => l[0]?) h1
      simpa [List.getElem?_take, List.getElem?_drop] using this
    rw [h2]; simp [hi]
  · rw [List.getElem?_eq_none (by omega), List.getElem?_eq_none (by simp; omega)]
/-- What the condition gives. -/
theorem tab_of_laid {W : World} (h : laidMetH Tryz.prog laidT W) : Tab W := by
  rw [MakeChecks.laidMetH_plain _ _ _ (by kernel_rfl)] at h
  obtain ⟨ps, ⟨g0, t0, cs0, f0, p0, q0, hg0, ht0, hv0, hd0, _⟩, _, _⟩ := h
  obtain rfl := Option.some.inj (gKept.symm.trans hg0)
  obtain rfl := Option.some.inj (tKept.symm.trans ht0)
  obtain ⟨xs, m, _, hx, hl, hn, hel⟩ := DataW.trod_array Tryz.underlying129 hd0
  have c5 : Tryz.prog.cellsOf 5 = 1 := by kernel_rfl
  have c50 : Tryz.prog.cellsOf 129 = 10 := by kernel_rfl
  rw [c50] at hl
  rw [c5] at hel
  simp only [Prod.mk.injEq] at hx
  match xs, hn with
  | [x0, x1, x2, x3, x4, x5, x6, x7, x8, x9], _ =>
    have hx1 := hx.1
    unfold Rows.laid_mezzanine_uart_kept at hx1
    simp only [List.map_cons, List.map_nil, DataW.agg.injEq, List.cons.injEq] at hx1
    obtain ⟨e0, e1, e2, e3, e4, e5, e6, e7, e8, e9, _⟩ := hx1
    have hcs : cs0.toList = (List.range 10).map fun i => keptQ.getD i undef := list10 hl fun i hi => by
      have hk : ((cs0.toList.drop i).take 1).length = 1 := by rw [List.length_take, List.length_drop, hl]; omega
      have hc : i = 0 ∨ i = 1 ∨ i = 2 ∨ i = 3 ∨ i = 4 ∨ i = 5 ∨ i = 6 ∨ i = 7 ∨ i = 8 ∨ i = 9 := by omega
      rcases hc with rfl | rfl | rfl | rfl | rfl | rfl | rfl | rfl | rfl | rfl
      · exact byte_cell hk (hel 0 (by decide)) e0.symm
      · exact byte_cell hk (hel 1 (by decide)) e1.symm
      · exact byte_cell hk (hel 2 (by decide)) e2.symm
      · exact byte_cell hk (hel 3 (by decide)) e3.symm
      · exact byte_cell hk (hel 4 (by decide)) e4.symm
      · exact byte_cell hk (hel 5 (by decide)) e5.symm
      · exact byte_cell hk (hel 6 (by decide)) e6.symm
      · exact byte_cell hk (hel 7 (by decide)) e7.symm
      · exact byte_cell hk (hel 8 (by decide)) e8.symm
      · exact byte_cell hk (hel 9 (by decide)) e9.symm
    simp only [World.var?, gKept, Option.bind_some] at hv0
    split at hv0
    · rename_i c t fr hb
      have hc := Option.some.inj hv0
      have hq : cs0 = keptQ := Array.ext' (by rw [hcs]; rfl)
      exact ⟨t, fr, by rw [hb, hc, hq]⟩
    · cases hv0

end Go.Proofs.YtbcnkhfpogglmaaGreatDoor.U6

namespace Go.Proofs.YtbcnkhfpogglmaaGreatDoor
open Go.ChangeShapes Go.WideShapes Go.ChangeAt Go.RowKit
set_option linter.unusedVariables false
set_option maxRecDepth 100000

/-- The listed variables. -/
abbrev laidT : List (String × DataW Unit) := [("mezzanine/plic.groups", Rows.laid_mezzanine_plic_groups), ("mezzanine/uart.kept", Rows.laid_mezzanine_uart_kept)]
theorem door_met (os : Os) (args : Array Value) : laidMetH Tryz.prog laidT ((World.doorLaid Tryz.prog 400 os).forCall (fun _ _ => 0) ⟨#[], args, []⟩).memory :=
  laidMetH_of_parts3 (fuel := 8) (laidMet_of_run' 8 (by kernel_rfl) (by kernel_rfl)) (by kernel_rfl) (by kernel_rfl)
/-- What the condition gives. -/
theorem tab_of_laid {W : World} (h : laidMetH Tryz.prog laidT W) : Tabs W := by
  rw [MakeChecks.laidMetH_plain _ _ _ (by kernel_rfl)] at h
  obtain ⟨ps, ⟨g0, t0, cs0, f0, p0, q0, hg0, ht0, hv0, hd0, hr, hps⟩, hn, hc⟩ := h
  subst hps
  refine ⟨P5.tab_of_laid ?_, U6.tab_of_laid ?_⟩
  · rw [MakeChecks.laidMetH_plain _ _ _ (by kernel_rfl)]
    refine ⟨MemPlace.row ⟨g0, 0, none⟩ cs0.size ++ p0 ++ [], ⟨g0, t0, cs0, f0, p0, [], hg0, ht0, hv0, hd0, rfl, rfl⟩, ?_, fun b off hm => hc b off ?_⟩
    · rw [List.append_nil]; exact (List.nodup_append.1 hn).1
    · rw [List.append_nil] at hm; exact List.mem_append.2 (.inl hm)
  · rw [MakeChecks.laidMetH_plain _ _ _ (by kernel_rfl)]
    exact ⟨q0, hr, (List.nodup_append.1 hn).2.1, fun b off hm => hc b off (List.mem_append.2 (.inr hm))⟩

end Go.Proofs.YtbcnkhfpogglmaaGreatDoor
