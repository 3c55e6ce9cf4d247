/- Layer 6: the program's uart: New, Out, Twin. -/
import Derived.Test.YtcbjfkbmbjmnbaaDoorUh
import Derived.Lib.SliceRun
namespace Go.Proofs.YtcbjfkbmbjmnbaaDoor
open Go.RowKit
set_option linter.unusedVariables false

/-- What a copy of a row is. -/
def CloneE (w : World) (xs : List Int) (e : Ending) (w' : World) : Prop := ∃ a c, e = .returned (.slice a xs.length c) ∧ Below w.heap.size w w' ∧ RowB w' (.slice a xs.length c) xs ∧ w'.ownsRow w.heap.size 5 1 (.slice a xs.length c) xs.length (u8s xs)
set_option maxHeartbeats 1000000 in
theorem clone_any (w : World) (v : Value) (xs : List Int) (h : RowB w v xs) (hl : xs.length ≤ 70000) : Calls Tryd.prog 30 #[v] w (CloneE w xs) := by
  have H := Lib.hid h
  obtain ⟨a, c, rfl, hnc, hcm, hr⟩ := h.reads hl
  have HL := Lib.hid hl
  rcases hr with ⟨rfl, rfl, rfl⟩ | ⟨g, off, rfl, hg, hc⟩
  · clear h hl
    have hq := Lib.run_eql_slice_nil (P := Tryd.prog) w 28 5 none 0 0 0 0 Tryd.underlying28
    simp only [Option.isNone_none] at hq
    go_enter Tryd.func30, Tryd.ntmps30
    go_wp2
    go_ret
    exact ⟨none, 0, rfl, Below.refl _ _, RowB.nil w, World.ownsRow_nil _ _ _ _⟩
  · have h2 := h.below (below_alloc w (.cells #[] 5))
    obtain ⟨v', w', hrun, hO, hR, hOn, hv⟩ := run_pour (w.alloc (.cells #[] 5)) _ xs h2 hl (by simp) w.heap.size (.slice (some ⟨w.heap.size, 0, none⟩) 0 0) (World.ownsRow_made w #[] 0 (Nat.le_refl _) (Nat.zero_le _) rfl) (by rw [World.size_alloc]; omega) 28
    obtain ⟨a2, c2, hv2, _, _, _⟩ := hR.reads hl
    subst hv2
    have hB : Below w.heap.size w w' := (below_alloc w (.cells #[] 5)).trans (hOn.below (fun k hk => by simp [Value.ownBlock] at hk; omega) (by rw [World.size_alloc]; omega))
    have HRUN := Lib.hid hrun
    have HE : Hid (CloneE w xs (.returned (.slice a2 xs.length c2)) w') := Lib.hid ⟨a2, c2, rfl, hB, hR, hO⟩
    clear h h2 hrun hO hR hOn hv hB hc hl hnc hcm
    generalize xs.length = n at *
    have hq := Lib.run_eql_slice_nil (P := Tryd.prog) w 28 5 (some ⟨g, off, none⟩) n c 0 0 Tryd.underlying28
    simp only [Option.isNone_some] at hq
    go_enter Tryd.func30, Tryd.ntmps30
    go_wp2_with ((at_builtin; refine wpList_append_run rfl _ _ _ rfl (.slice (some ⟨w.heap.size, 0, none⟩) 0 0) (.slice (some ⟨g, off, none⟩) n c) (.slice a2 n c2) w' rfl rfl HRUN.out ?_))
    go_ret
    exact HE.out

/-- What Out answers. -/
theorem out_any (w : World) (b : Nat) (F : Nat → Prop) (t : US) (h : UP w b F t) : Calls Tryd.prog 14 #[.pointer (some ⟨b, 0, none⟩)] w (CloneE w t.out) := by
  obtain ⟨vi, vo, h⟩ := h
  have hlo := h.ok.lo
  have HC := Lib.hid (clone_any w vo t.out h.ro (by omega))
  obtain ⟨_, c1, _, _⟩ := h.pcells
  obtain ⟨a, c, rfl, _, _, _⟩ := h.ro.reads (by omega)
  clear h hlo
  go_enter Tryd.func14, Tryd.ntmps14
  go_wp2_with (go_at_call 30; refine (HC.out).mono ?_; rintro e w' ⟨a2, c2, rfl, hE⟩; have HE := Lib.hid hE; clear hE)
  go_ret
  exact ⟨_, _, rfl, HE.out⟩
theorem out_nil (w : World) : Calls Tryd.prog 14 #[.pointer none] w fun e w' => e = .returned (.slice none 0 0) ∧ w = w' := by
  go_enter Tryd.func14, Tryd.ntmps14
  go_wp2
  go_ret
  exact ⟨rfl, rfl⟩

/-- A new object that holds t. -/
def MadeU (mk : Value → Value → US → Array Value) (ty : TypeId) (w : World) (t : US) (e : Ending) (w' : World) : Prop :=
  ∃ b F vi vo, e = .returned (.pointer (some ⟨b, 0, none⟩)) ∧ Below w.heap.size w w' ∧ (∀ i, F i → w.heap.size ≤ i) ∧ Holds mk ty w' b F t vi vo
theorem made_of (mk : Value → Value → US → Array Value) (ty : TypeId) (w : World) : Holds mk ty (w.alloc (.cells (mk (.slice none 0 0) (.slice none 0 0) u0) ty)) w.heap.size (fun i => i = w.heap.size) u0 (.slice none 0 0) (.slice none 0 0) :=
  ⟨heap_alloc_new w _, RowB.nil _, RowB.nil _, rfl, fun g hg => by simp [Value.ownBlock] at hg, fun g hg => by simp [Value.ownBlock] at hg, fun g hg => by simp [Value.ownBlock] at hg, fun i hi => by rw [World.size_alloc]; omega, u0_ok⟩
theorem new_any (w : World) : Calls Tryd.prog 9 #[] w (MadeU cellsP 52 w u0) := by
  have HM := Lib.hid (made_of cellsP 52 w)
  go_enter Tryd.func9, Tryd.ntmps9
  go_wp2
  go_ret
  exact ⟨_, _, _, _, rfl, below_alloc w _, fun i hi => by omega, HM.out⟩

theorem twin_nil (w : World) : Calls Tryd.prog 18 #[.pointer none] w fun e w' => e = .returned (.pointer none) ∧ w = w' := by
  go_enter Tryd.func18, Tryd.ntmps18
  go_wp2
  go_ret
  exact ⟨rfl, rfl⟩

end Go.Proofs.YtcbjfkbmbjmnbaaDoor
