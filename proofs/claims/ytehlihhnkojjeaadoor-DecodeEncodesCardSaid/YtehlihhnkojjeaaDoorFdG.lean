/- The contract of the document's Places: each form's bits, the highest first. -/
import Derived.Test.YtehlihhnkojjeaaDoorFdA
import Derived.Test.YtehlihhnkojjeaaDoorFv
import Derived.Test.YtehlihhnkojjeaaDoorInts
import Derived.Laws.AppendOwn
namespace Go.Proofs.YtehlihhnkojjeaaDoor
open Go.RowKit
set_option linter.unusedVariables false
set_option maxRecDepth 100000

theorem info_int : (Tryd.prog.info? 3).map (fun i => (i.zero, i.size, i.bytes)) = some (some (.int .i64 0), 1, 8) := by kernel_rfl
theorem places_3 (w : World) :
    Calls Tryd.prog 45 #[.int .i64 3] w fun e w' => ∃ v, e = .returned v ∧ ReadsL .i64 w'.heap.size w' v (formP 3) ∧ Below w.heap.size w w' := by
  obtain ⟨i0, hi, hz0, hz1, hz2⟩ := info_parts info_int
  go_enter Tryd.func45, Tryd.ntmps45
  go_wp2_with (at_builtin; refine wpList_append_own _ rfl _ _ 48 rfl w.heap.size 3 i0 (.int .i64 0) 1 8 Tryd.underlying48 hi hz0 hz1 hz2 rfl (by decide) (.slice none 0 0) 0 [] rfl (World.ownsRow_nil _ _ _ _) ⟨w.heap.size, 0, none⟩ 13 13 [.int .i64 31, .int .i64 7, .int .i64 30, .int .i64 29, .int .i64 28, .int .i64 27, .int .i64 26, .int .i64 25, .int .i64 11, .int .i64 10, .int .i64 9, .int .i64 8, .int .i64 (-1)] rfl rfl ?c1 ?c2 ?c3 ?c4 ?c5 ?_)
  case c1 =>
    intro j u hj
    match j, hj with
    | 0, hj => simp at hj; subst hj; simp [Addr.add]
    | 1, hj => simp at hj; subst hj; simp [Addr.add]
    | 2, hj => simp at hj; subst hj; simp [Addr.add]
    | 3, hj => simp at hj; subst hj; simp [Addr.add]
    | 4, hj => simp at hj; subst hj; simp [Addr.add]
    | 5, hj => simp at hj; subst hj; simp [Addr.add]
    | 6, hj => simp at hj; subst hj; simp [Addr.add]
    | 7, hj => simp at hj; subst hj; simp [Addr.add]
    | 8, hj => simp at hj; subst hj; simp [Addr.add]
    | 9, hj => simp at hj; subst hj; simp [Addr.add]
    | 10, hj => simp at hj; subst hj; simp [Addr.add]
    | 11, hj => simp at hj; subst hj; simp [Addr.add]
    | 12, hj => simp at hj; subst hj; simp [Addr.add]
    | j + 13, hj => simp at hj
  case c2 => intro u hu; simp at hu; rcases hu with rfl | rfl | rfl | rfl | rfl | rfl | rfl | rfl | rfl | rfl | rfl | rfl | rfl <;> rfl
  case c3 => unfold maxLen; omega
  case c4 => omega
  case c5 => simp
  intro v' w2 hown' hgrow _
  have R : w2.ownsRow w.heap.size 3 1 v' ([31, 7, 30, 29, 28, 27, 26, 25, 11, 10, 9, 8, -1] : List Int).length (([31, 7, 30, 29, 28, 27, 26, 25, 11, 10, 9, 8, -1] : List Int).map (Value.int .i64)) := by simpa using hown'
  have R2 : Below w.heap.size w w2 := ((Below.refl _ _).alloc (Nat.le_refl _) _).grown hgrow (by simp) (fun j hj => by cases hj)
  clear hown' hgrow
  go_wp2
  go_ret
  exact ⟨_, rfl, ReadsL.own R, R2⟩

theorem places_5 (w : World) :
    Calls Tryd.prog 45 #[.int .i64 5] w fun e w' => ∃ v, e = .returned v ∧ ReadsL .i64 w'.heap.size w' v (formP 5) ∧ Below w.heap.size w w' := by
  obtain ⟨i0, hi, hz0, hz1, hz2⟩ := info_parts info_int
  go_enter Tryd.func45, Tryd.ntmps45
  go_wp2_with (at_builtin; refine wpList_append_own _ rfl _ _ 48 rfl w.heap.size 3 i0 (.int .i64 0) 1 8 Tryd.underlying48 hi hz0 hz1 hz2 rfl (by decide) (.slice none 0 0) 0 [] rfl (World.ownsRow_nil _ _ _ _) ⟨w.heap.size, 0, none⟩ 21 21 [.int .i64 31, .int .i64 19, .int .i64 18, .int .i64 17, .int .i64 16, .int .i64 15, .int .i64 14, .int .i64 13, .int .i64 12, .int .i64 20, .int .i64 30, .int .i64 29, .int .i64 28, .int .i64 27, .int .i64 26, .int .i64 25, .int .i64 24, .int .i64 23, .int .i64 22, .int .i64 21, .int .i64 (-1)] rfl rfl ?c1 ?c2 ?c3 ?c4 ?c5 ?_)
  case c1 =>
    intro j u hj
    match j, hj with
    | 0, hj => simp at hj; subst hj; simp [Addr.add]
    | 1, hj => simp at hj; subst hj; simp [Addr.add]
    | 2, hj => simp at hj; subst hj; simp [Addr.add]
    | 3, hj => simp at hj; subst hj; simp [Addr.add]
    | 4, hj => simp at hj; subst hj; simp [Addr.add]
    | 5, hj => simp at hj; subst hj; simp [Addr.add]
    | 6, hj => simp at hj; subst hj; simp [Addr.add]
    | 7, hj => simp at hj; subst hj; simp [Addr.add]
    | 8, hj => simp at hj; subst hj; simp [Addr.add]
    | 9, hj => simp at hj; subst hj; simp [Addr.add]
    | 10, hj => simp at hj; subst hj; simp [Addr.add]
    | 11, hj => simp at hj; subst hj; simp [Addr.add]
    | 12, hj => simp at hj; subst hj; simp [Addr.add]
    | 13, hj => simp at hj; subst hj; simp [Addr.add]
    | 14, hj => simp at hj; subst hj; simp [Addr.add]
    | 15, hj => simp at hj; subst hj; simp [Addr.add]
    | 16, hj => simp at hj; subst hj; simp [Addr.add]
    | 17, hj => simp at hj; subst hj; simp [Addr.add]
    | 18, hj => simp at hj; subst hj; simp [Addr.add]
    | 19, hj => simp at hj; subst hj; simp [Addr.add]
    | 20, hj => simp at hj; subst hj; simp [Addr.add]
    | j + 21, hj => simp at hj
  case c2 => intro u hu; simp at hu; rcases hu with rfl | rfl | rfl | rfl | rfl | rfl | rfl | rfl | rfl | rfl | rfl | rfl | rfl | rfl | rfl | rfl | rfl | rfl | rfl | rfl | rfl <;> rfl
  case c3 => unfold maxLen; omega
  case c4 => omega
  case c5 => simp
  intro v' w2 hown' hgrow _
  have R : w2.ownsRow w.heap.size 3 1 v' ([31, 19, 18, 17, 16, 15, 14, 13, 12, 20, 30, 29, 28, 27, 26, 25, 24, 23, 22, 21, -1] : List Int).length (([31, 19, 18, 17, 16, 15, 14, 13, 12, 20, 30, 29, 28, 27, 26, 25, 24, 23, 22, 21, -1] : List Int).map (Value.int .i64)) := by simpa using hown'
  have R2 : Below w.heap.size w w2 := ((Below.refl _ _).alloc (Nat.le_refl _) _).grown hgrow (by simp) (fun j hj => by cases hj)
  clear hown' hgrow
  go_wp2
  go_ret
  exact ⟨_, rfl, ReadsL.own R, R2⟩

theorem places_6 (w : World) :
    Calls Tryd.prog 45 #[.int .i64 6] w fun e w' => ∃ v, e = .returned v ∧ ReadsL .i64 w'.heap.size w' v (formP 6) ∧ Below w.heap.size w w' := by
  obtain ⟨i0, hi, hz0, hz1, hz2⟩ := info_parts info_int
  go_enter Tryd.func45, Tryd.ntmps45
  go_wp2_with (at_builtin; refine wpList_append_own _ rfl _ _ 48 rfl w.heap.size 3 i0 (.int .i64 0) 1 8 Tryd.underlying48 hi hz0 hz1 hz2 rfl (by decide) (.slice none 0 0) 0 [] rfl (World.ownsRow_nil _ _ _ _) ⟨w.heap.size, 0, none⟩ 6 6 [.int .i64 25, .int .i64 24, .int .i64 23, .int .i64 22, .int .i64 21, .int .i64 20] rfl rfl ?c1 ?c2 ?c3 ?c4 ?c5 ?_)
  case c1 =>
    intro j u hj
    match j, hj with
    | 0, hj => simp at hj; subst hj; simp [Addr.add]
    | 1, hj => simp at hj; subst hj; simp [Addr.add]
    | 2, hj => simp at hj; subst hj; simp [Addr.add]
    | 3, hj => simp at hj; subst hj; simp [Addr.add]
    | 4, hj => simp at hj; subst hj; simp [Addr.add]
    | 5, hj => simp at hj; subst hj; simp [Addr.add]
    | j + 6, hj => simp at hj
  case c2 => intro u hu; simp at hu; rcases hu with rfl | rfl | rfl | rfl | rfl | rfl <;> rfl
  case c3 => unfold maxLen; omega
  case c4 => omega
  case c5 => simp
  intro v' w2 hown' hgrow _
  have R : w2.ownsRow w.heap.size 3 1 v' ([25, 24, 23, 22, 21, 20] : List Int).length (([25, 24, 23, 22, 21, 20] : List Int).map (Value.int .i64)) := by simpa using hown'
  have R2 : Below w.heap.size w w2 := ((Below.refl _ _).alloc (Nat.le_refl _) _).grown hgrow (by simp) (fun j hj => by cases hj)
  clear hown' hgrow
  go_wp2
  go_ret
  exact ⟨_, rfl, ReadsL.own R, R2⟩

theorem places_7 (w : World) :
    Calls Tryd.prog 45 #[.int .i64 7] w fun e w' => ∃ v, e = .returned v ∧ ReadsL .i64 w'.heap.size w' v (formP 7) ∧ Below w.heap.size w w' := by
  obtain ⟨i0, hi, hz0, hz1, hz2⟩ := info_parts info_int
  go_enter Tryd.func45, Tryd.ntmps45
  go_wp2_with (at_builtin; refine wpList_append_own _ rfl _ _ 48 rfl w.heap.size 3 i0 (.int .i64 0) 1 8 Tryd.underlying48 hi hz0 hz1 hz2 rfl (by decide) (.slice none 0 0) 0 [] rfl (World.ownsRow_nil _ _ _ _) ⟨w.heap.size, 0, none⟩ 5 5 [.int .i64 24, .int .i64 23, .int .i64 22, .int .i64 21, .int .i64 20] rfl rfl ?c1 ?c2 ?c3 ?c4 ?c5 ?_)
  case c1 =>
    intro j u hj
    match j, hj with
    | 0, hj => simp at hj; subst hj; simp [Addr.add]
    | 1, hj => simp at hj; subst hj; simp [Addr.add]
    | 2, hj => simp at hj; subst hj; simp [Addr.add]
    | 3, hj => simp at hj; subst hj; simp [Addr.add]
    | 4, hj => simp at hj; subst hj; simp [Addr.add]
    | j + 5, hj => simp at hj
  case c2 => intro u hu; simp at hu; rcases hu with rfl | rfl | rfl | rfl | rfl <;> rfl
  case c3 => unfold maxLen; omega
  case c4 => omega
  case c5 => simp
  intro v' w2 hown' hgrow _
  have R : w2.ownsRow w.heap.size 3 1 v' ([24, 23, 22, 21, 20] : List Int).length (([24, 23, 22, 21, 20] : List Int).map (Value.int .i64)) := by simpa using hown'
  have R2 : Below w.heap.size w w2 := ((Below.refl _ _).alloc (Nat.le_refl _) _).grown hgrow (by simp) (fun j hj => by cases hj)
  clear hown' hgrow
  go_wp2
  go_ret
  exact ⟨_, rfl, ReadsL.own R, R2⟩

theorem places_9 (w : World) :
    Calls Tryd.prog 45 #[.int .i64 9] w fun e w' => ∃ v, e = .returned v ∧ ReadsL .i64 w'.heap.size w' v (formP 9) ∧ Below w.heap.size w w' := by
  obtain ⟨i0, hi, hz0, hz1, hz2⟩ := info_parts info_int
  go_enter Tryd.func45, Tryd.ntmps45
  go_wp2_with (at_builtin; refine wpList_append_own _ rfl _ _ 48 rfl w.heap.size 3 i0 (.int .i64 0) 1 8 Tryd.underlying48 hi hz0 hz1 hz2 rfl (by decide) (.slice none 0 0) 0 [] rfl (World.ownsRow_nil _ _ _ _) ⟨w.heap.size, 0, none⟩ 5 5 [.int .i64 19, .int .i64 18, .int .i64 17, .int .i64 16, .int .i64 15] rfl rfl ?c1 ?c2 ?c3 ?c4 ?c5 ?_)
  case c1 =>
    intro j u hj
    match j, hj with
    | 0, hj => simp at hj; subst hj; simp [Addr.add]
    | 1, hj => simp at hj; subst hj; simp [Addr.add]
    | 2, hj => simp at hj; subst hj; simp [Addr.add]
    | 3, hj => simp at hj; subst hj; simp [Addr.add]
    | 4, hj => simp at hj; subst hj; simp [Addr.add]
    | j + 5, hj => simp at hj
  case c2 => intro u hu; simp at hu; rcases hu with rfl | rfl | rfl | rfl | rfl <;> rfl
  case c3 => unfold maxLen; omega
  case c4 => omega
  case c5 => simp
  intro v' w2 hown' hgrow _
  have R : w2.ownsRow w.heap.size 3 1 v' ([19, 18, 17, 16, 15] : List Int).length (([19, 18, 17, 16, 15] : List Int).map (Value.int .i64)) := by simpa using hown'
  have R2 : Below w.heap.size w w2 := ((Below.refl _ _).alloc (Nat.le_refl _) _).grown hgrow (by simp) (fun j hj => by cases hj)
  clear hown' hgrow
  go_wp2
  go_ret
  exact ⟨_, rfl, ReadsL.own R, R2⟩

theorem places_1 (w : World) :
    Calls Tryd.prog 45 #[.int .i64 1] w fun e w' => ∃ v, e = .returned v ∧ ReadsL .i64 w'.heap.size w' v (formP 1) ∧ Below w.heap.size w w' := by
  obtain ⟨i0, hi, hz0, hz1, hz2⟩ := info_parts info_int
  go_enter Tryd.func45, Tryd.ntmps45
  go_wp2
  go_loopw [3, 4] (fun v i wr => ∃ m : Nat, m ≤ 12 ∧ i = .int .i64 (31 - (m : Int)) ∧ wr.ownsRow w.heap.size 3 1 v (down 31 m : List Int).length ((down 31 m : List Int).map (Value.int .i64)) ∧ Below w.heap.size w wr) (fun _ i _ => (intOf i + 1).toNat)
  case atStart => exact ⟨0, Nat.zero_le _, rfl, World.ownsRow_nil _ _ _ _, Below.refl _ _⟩
  case round =>
    obtain ⟨m, hm, rfl, hown, hnx⟩ := hrel
    have hl : (down 31 m : List Int).length = 0 + m := by simp [down_len, List.length_replicate]
    by_cases hlt : m < 12
    · go_wp2_with (at_builtin; refine wpList_append_own _ rfl _ _ 48 rfl w.heap.size 3 i0 (.int .i64 0) 1 8 Tryd.underlying48 hi hz0 hz1 hz2 rfl (by decide) _ _ _ rfl (hown.alloc _) ⟨wr.heap.size, 0, none⟩ 1 1 [.int .i64 (31 - (m : Int))] rfl rfl ?c1 ?c2 ?c3 ?c4 ?c5 ?_)
      case c1 =>
        intro j u hj
        match j, hj with
        | 0, hj => simp at hj; subst hj; simp [Addr.add]
      case c2 => intro u hu; simp at hu; subst hu; rfl
      case c3 => unfold maxLen; omega
      case c4 => omega
      case c5 => have := hnx.size; simp; omega
      intro v' w2 hown' hgrow _
      have R : w2.ownsRow w.heap.size 3 1 v' (down 31 (m + 1) : List Int).length ((down 31 (m + 1) : List Int).map (Value.int .i64)) := by
        rw [down_succ 31 m]; simpa [List.map_append, down_len, List.length_replicate, Nat.add_assoc, List.append_assoc] using hown'
      have R2 : Below w.heap.size w w2 := (hnx.alloc hnx.size _).grown hgrow (by have := hnx.size; simp; omega) (fun j hj => by have := (hown.lt j hj).1; omega)
      clear hown' hgrow hown hnx hl
      go_wp2
      go_roundw
      case rel => exact ⟨m + 1, by omega, by congr 1; omega, R, R2⟩
      case measure => simp [intOf]; omega
    · obtain rfl : m = 12 := by omega
      clear hl
      go_wp2
      go_ret
      exact ⟨_, rfl, ReadsL.own hown, hnx⟩

theorem places_8 (w : World) :
    Calls Tryd.prog 45 #[.int .i64 8] w fun e w' => ∃ v, e = .returned v ∧ ReadsL .i64 w'.heap.size w' v (formP 8) ∧ Below w.heap.size w w' := by
  obtain ⟨i0, hi, hz0, hz1, hz2⟩ := info_parts info_int
  go_enter Tryd.func45, Tryd.ntmps45
  go_wp2
  go_loopw [3, 4] (fun v i wr => ∃ m : Nat, m ≤ 12 ∧ i = .int .i64 (31 - (m : Int)) ∧ wr.ownsRow w.heap.size 3 1 v (down 31 m : List Int).length ((down 31 m : List Int).map (Value.int .i64)) ∧ Below w.heap.size w wr) (fun _ i _ => (intOf i + 1).toNat)
  case atStart => exact ⟨0, Nat.zero_le _, rfl, World.ownsRow_nil _ _ _ _, Below.refl _ _⟩
  case round =>
    obtain ⟨m, hm, rfl, hown, hnx⟩ := hrel
    have hl : (down 31 m : List Int).length = 0 + m := by simp [down_len, List.length_replicate]
    by_cases hlt : m < 12
    · go_wp2_with (at_builtin; refine wpList_append_own _ rfl _ _ 48 rfl w.heap.size 3 i0 (.int .i64 0) 1 8 Tryd.underlying48 hi hz0 hz1 hz2 rfl (by decide) _ _ _ rfl (hown.alloc _) ⟨wr.heap.size, 0, none⟩ 1 1 [.int .i64 (31 - (m : Int))] rfl rfl ?c1 ?c2 ?c3 ?c4 ?c5 ?_)
      case c1 =>
        intro j u hj
        match j, hj with
        | 0, hj => simp at hj; subst hj; simp [Addr.add]
      case c2 => intro u hu; simp at hu; subst hu; rfl
      case c3 => unfold maxLen; omega
      case c4 => omega
      case c5 => have := hnx.size; simp; omega
      intro v' w2 hown' hgrow _
      have R : w2.ownsRow w.heap.size 3 1 v' (down 31 (m + 1) : List Int).length ((down 31 (m + 1) : List Int).map (Value.int .i64)) := by
        rw [down_succ 31 m]; simpa [List.map_append, down_len, List.length_replicate, Nat.add_assoc, List.append_assoc] using hown'
      have R2 : Below w.heap.size w w2 := (hnx.alloc hnx.size _).grown hgrow (by have := hnx.size; simp; omega) (fun j hj => by have := (hown.lt j hj).1; omega)
      clear hown' hgrow hown hnx hl
      go_wp2
      go_roundw
      case rel => exact ⟨m + 1, by omega, by congr 1; omega, R, R2⟩
      case measure => simp [intOf]; omega
    · obtain rfl : m = 12 := by omega
      clear hl
      go_wp2
      go_ret
      exact ⟨_, rfl, ReadsL.own hown, hnx⟩

theorem places_2 (w : World) :
    Calls Tryd.prog 45 #[.int .i64 2] w fun e w' => ∃ v, e = .returned v ∧ ReadsL .i64 w'.heap.size w' v (formP 2) ∧ Below w.heap.size w w' := by
  obtain ⟨i0, hi, hz0, hz1, hz2⟩ := info_parts info_int
  go_enter Tryd.func45, Tryd.ntmps45
  go_wp2
  go_loopw [3, 5] (fun v i wr => ∃ m : Nat, m ≤ 7 ∧ i = .int .i64 (31 - (m : Int)) ∧ wr.ownsRow w.heap.size 3 1 v (down 31 m : List Int).length ((down 31 m : List Int).map (Value.int .i64)) ∧ Below w.heap.size w wr) (fun _ i _ => (intOf i + 1).toNat)
  case atStart => exact ⟨0, Nat.zero_le _, rfl, World.ownsRow_nil _ _ _ _, Below.refl _ _⟩
  case round =>
    obtain ⟨m, hm, rfl, hown, hnx⟩ := hrel
    have hl : (down 31 m : List Int).length = 0 + m := by simp [down_len, List.length_replicate]
    by_cases hlt : m < 7
    · go_wp2_with (at_builtin; refine wpList_append_own _ rfl _ _ 48 rfl w.heap.size 3 i0 (.int .i64 0) 1 8 Tryd.underlying48 hi hz0 hz1 hz2 rfl (by decide) _ _ _ rfl (hown.alloc _) ⟨wr.heap.size, 0, none⟩ 1 1 [.int .i64 (31 - (m : Int))] rfl rfl ?c1 ?c2 ?c3 ?c4 ?c5 ?_)
      case c1 =>
        intro j u hj
        match j, hj with
        | 0, hj => simp at hj; subst hj; simp [Addr.add]
      case c2 => intro u hu; simp at hu; subst hu; rfl
      case c3 => unfold maxLen; omega
      case c4 => omega
      case c5 => have := hnx.size; simp; omega
      intro v' w2 hown' hgrow _
      have R : w2.ownsRow w.heap.size 3 1 v' (down 31 (m + 1) : List Int).length ((down 31 (m + 1) : List Int).map (Value.int .i64)) := by
        rw [down_succ 31 m]; simpa [List.map_append, down_len, List.length_replicate, Nat.add_assoc, List.append_assoc] using hown'
      have R2 : Below w.heap.size w w2 := (hnx.alloc hnx.size _).grown hgrow (by have := hnx.size; simp; omega) (fun j hj => by have := (hown.lt j hj).1; omega)
      clear hown' hgrow hown hnx hl
      go_wp2
      go_roundw
      case rel => exact ⟨m + 1, by omega, by congr 1; omega, R, R2⟩
      case measure => simp [intOf]; omega
    · obtain rfl : m = 7 := by omega
      clear hl
      obtain ⟨wo, rfl⟩ : ∃ wo : World, wo = wr := ⟨_, rfl⟩
      have HO := Lib.hid hown
      have HX := Lib.hid hnx
      clear hown hnx
      rw [show (31 : Int) - ((7 : Nat) : Int) = 24 from rfl]
      go_wp2
      go_loopw [3, 6] (fun v i wr => ∃ m : Nat, m ≤ 5 ∧ i = .int .i64 (11 - (m : Int)) ∧ wr.ownsRow w.heap.size 3 1 v (down 31 7 ++ down 11 m : List Int).length ((down 31 7 ++ down 11 m : List Int).map (Value.int .i64)) ∧ Below w.heap.size w wr) (fun _ i _ => (intOf i + 1).toNat)
      case atStart => exact ⟨0, Nat.zero_le _, rfl, HO.out, HX.out⟩
      case round =>
        obtain ⟨m, hm, rfl, hown, hnx⟩ := hrel
        have hl : (down 31 7 ++ down 11 m : List Int).length = 7 + m := by simp [down_len, List.length_replicate]
        by_cases hlt : m < 5
        · go_wp2_with (at_builtin; refine wpList_append_own _ rfl _ _ 48 rfl w.heap.size 3 i0 (.int .i64 0) 1 8 Tryd.underlying48 hi hz0 hz1 hz2 rfl (by decide) _ _ _ rfl (hown.alloc _) ⟨wr.heap.size, 0, none⟩ 1 1 [.int .i64 (11 - (m : Int))] rfl rfl ?c1 ?c2 ?c3 ?c4 ?c5 ?_)
          case c1 =>
            intro j u hj
            match j, hj with
            | 0, hj => simp at hj; subst hj; simp [Addr.add]
          case c2 => intro u hu; simp at hu; subst hu; rfl
          case c3 => unfold maxLen; omega
          case c4 => omega
          case c5 => have := hnx.size; simp; omega
          intro v' w2 hown' hgrow _
          have R : w2.ownsRow w.heap.size 3 1 v' (down 31 7 ++ down 11 (m + 1) : List Int).length ((down 31 7 ++ down 11 (m + 1) : List Int).map (Value.int .i64)) := by
            rw [down_succ 11 m]; simpa [List.map_append, down_len, List.length_replicate, Nat.add_assoc, List.append_assoc] using hown'
          have R2 : Below w.heap.size w w2 := (hnx.alloc hnx.size _).grown hgrow (by have := hnx.size; simp; omega) (fun j hj => by have := (hown.lt j hj).1; omega)
          clear hown' hgrow hown hnx hl
          go_wp2
          go_roundw
          case rel => exact ⟨m + 1, by omega, by congr 1; omega, R, R2⟩
          case measure => simp [intOf]; omega
        · obtain rfl : m = 5 := by omega
          clear hl
          go_wp2
          go_ret
          exact ⟨_, rfl, ReadsL.own hown, hnx⟩

theorem places_4 (w : World) :
    Calls Tryd.prog 45 #[.int .i64 4] w fun e w' => ∃ v, e = .returned v ∧ ReadsL .i64 w'.heap.size w' v (formP 4) ∧ Below w.heap.size w w' := by
  obtain ⟨i0, hi, hz0, hz1, hz2⟩ := info_parts info_int
  go_enter Tryd.func45, Tryd.ntmps45
  go_wp2
  go_loopw [3, 7] (fun v i wr => ∃ m : Nat, m ≤ 20 ∧ i = .int .i64 (31 - (m : Int)) ∧ wr.ownsRow w.heap.size 3 1 v (down 31 m : List Int).length ((down 31 m : List Int).map (Value.int .i64)) ∧ Below w.heap.size w wr) (fun _ i _ => (intOf i + 1).toNat)
  case atStart => exact ⟨0, Nat.zero_le _, rfl, World.ownsRow_nil _ _ _ _, Below.refl _ _⟩
  case round =>
    obtain ⟨m, hm, rfl, hown, hnx⟩ := hrel
    have hl : (down 31 m : List Int).length = 0 + m := by simp [down_len, List.length_replicate]
    by_cases hlt : m < 20
    · go_wp2_with (at_builtin; refine wpList_append_own _ rfl _ _ 48 rfl w.heap.size 3 i0 (.int .i64 0) 1 8 Tryd.underlying48 hi hz0 hz1 hz2 rfl (by decide) _ _ _ rfl (hown.alloc _) ⟨wr.heap.size, 0, none⟩ 1 1 [.int .i64 (31 - (m : Int))] rfl rfl ?c1 ?c2 ?c3 ?c4 ?c5 ?_)
      case c1 =>
        intro j u hj
        match j, hj with
        | 0, hj => simp at hj; subst hj; simp [Addr.add]
      case c2 => intro u hu; simp at hu; subst hu; rfl
      case c3 => unfold maxLen; omega
      case c4 => omega
      case c5 => have := hnx.size; simp; omega
      intro v' w2 hown' hgrow _
      have R : w2.ownsRow w.heap.size 3 1 v' (down 31 (m + 1) : List Int).length ((down 31 (m + 1) : List Int).map (Value.int .i64)) := by
        rw [down_succ 31 m]; simpa [List.map_append, down_len, List.length_replicate, Nat.add_assoc, List.append_assoc] using hown'
      have R2 : Below w.heap.size w w2 := (hnx.alloc hnx.size _).grown hgrow (by have := hnx.size; simp; omega) (fun j hj => by have := (hown.lt j hj).1; omega)
      clear hown' hgrow hown hnx hl
      go_wp2
      go_roundw
      case rel => exact ⟨m + 1, by omega, by congr 1; omega, R, R2⟩
      case measure => simp [intOf]; omega
    · obtain rfl : m = 20 := by omega
      clear hl
      obtain ⟨wo, rfl⟩ : ∃ wo : World, wo = wr := ⟨_, rfl⟩
      have HO := Lib.hid hown
      have HX := Lib.hid hnx
      clear hown hnx
      rw [show (31 : Int) - ((20 : Nat) : Int) = 11 from rfl]
      go_wp2
      go_loopw [3, 8] (fun v i wr => ∃ m : Nat, m ≤ 12 ∧ i = .int .i64 m ∧ wr.ownsRow w.heap.size 3 1 v (down 31 20 ++ List.replicate m (-1) : List Int).length ((down 31 20 ++ List.replicate m (-1) : List Int).map (Value.int .i64)) ∧ Below w.heap.size w wr) (fun _ i _ => 12 - (intOf i).toNat)
      case atStart => exact ⟨0, Nat.zero_le _, rfl, HO.out, HX.out⟩
      case round =>
        obtain ⟨m, hm, rfl, hown, hnx⟩ := hrel
        have hl : (down 31 20 ++ List.replicate m (-1) : List Int).length = 20 + m := by simp [down_len, List.length_replicate]
        by_cases hlt : m < 12
        · go_wp2_with (at_builtin; refine wpList_append_own _ rfl _ _ 48 rfl w.heap.size 3 i0 (.int .i64 0) 1 8 Tryd.underlying48 hi hz0 hz1 hz2 rfl (by decide) _ _ _ rfl (hown.alloc _) ⟨wr.heap.size, 0, none⟩ 1 1 [.int .i64 (-1)] rfl rfl ?c1 ?c2 ?c3 ?c4 ?c5 ?_)
          case c1 =>
            intro j u hj
            match j, hj with
            | 0, hj => simp at hj; subst hj; simp [Addr.add]
          case c2 => intro u hu; simp at hu; subst hu; rfl
          case c3 => unfold maxLen; omega
          case c4 => omega
          case c5 => have := hnx.size; simp; omega
          intro v' w2 hown' hgrow _
          have R : w2.ownsRow w.heap.size 3 1 v' (down 31 20 ++ List.replicate (m + 1) (-1) : List Int).length ((down 31 20 ++ List.replicate (m + 1) (-1) : List Int).map (Value.int .i64)) := by
            rw [List.replicate_succ' (n := m)]; simpa [List.map_append, down_len, List.length_replicate, Nat.add_assoc, List.append_assoc] using hown'
          have R2 : Below w.heap.size w w2 := (hnx.alloc hnx.size _).grown hgrow (by have := hnx.size; simp; omega) (fun j hj => by have := (hown.lt j hj).1; omega)
          clear hown' hgrow hown hnx hl
          go_wp2
          go_roundw
          case rel => exact ⟨m + 1, by omega, by go_num, R, R2⟩
          case measure => simp [intOf]; omega
        · obtain rfl : m = 12 := by omega
          clear hl
          go_wp2
          go_ret
          exact ⟨_, rfl, ReadsL.own hown, hnx⟩

theorem places_any (k : Nat) (hk : 1 ≤ k ∧ k ≤ 9) (w : World) :
    Calls Tryd.prog 45 #[.int .i64 k] w fun e w' => ∃ v, e = .returned v ∧ ReadsL .i64 w'.heap.size w' v (formP k) ∧ Below w.heap.size w w' := by
  match k, hk with
  | 1, _ => exact places_1 w
  | 2, _ => exact places_2 w
  | 3, _ => exact places_3 w
  | 4, _ => exact places_4 w
  | 5, _ => exact places_5 w
  | 6, _ => exact places_6 w
  | 7, _ => exact places_7 w
  | 8, _ => exact places_8 w
  | 9, _ => exact places_9 w
  | k + 10, hk => omega

theorem places_no (f : Int) (h : ¬ (1 ≤ f ∧ f ≤ 9)) (w : World) :
    Calls Tryd.prog 45 #[.int .i64 f] w fun e w' => e = .returned (.slice none 0 0) ∧ w = w' := by
  have n1 : (f == 1) = false := by rw [beq_eq_false_iff_ne]; omega
  have n2 : (f == 2) = false := by rw [beq_eq_false_iff_ne]; omega
  have n3 : (f == 3) = false := by rw [beq_eq_false_iff_ne]; omega
  have n4 : (f == 4) = false := by rw [beq_eq_false_iff_ne]; omega
  have n5 : (f == 5) = false := by rw [beq_eq_false_iff_ne]; omega
  have n6 : (f == 6) = false := by rw [beq_eq_false_iff_ne]; omega
  have n7 : (f == 7) = false := by rw [beq_eq_false_iff_ne]; omega
  have n8 : (f == 8) = false := by rw [beq_eq_false_iff_ne]; omega
  have n9 : (f == 9) = false := by rw [beq_eq_false_iff_ne]; omega
  clear h
  go_enter Tryd.func45, Tryd.ntmps45
  go_wp2
  go_ret
  exact ⟨rfl, rfl⟩

end Go.Proofs.YtehlihhnkojjeaaDoor
