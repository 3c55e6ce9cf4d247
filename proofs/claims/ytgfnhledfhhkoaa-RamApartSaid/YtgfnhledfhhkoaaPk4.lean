/- Few numbers in order: Sort, Sorted, Pages. -/
import Derived.Test.YtgfnhledfhhkoaaPk3
namespace Go.Proofs.Ytgfnhledfhhkoaa
open Go.RowKit Go.Maps Go.Sort
set_option linter.unusedVariables false

/-- Some number is told; the world is as it was. -/
def SomeInt (w : World) (e : Ending) (w' : World) : Prop := (∃ k : Int, e = .returned (.int .i64 k)) ∧ w = w'

set_option maxRecDepth 1000000 in
set_option maxHeartbeats 2000000 in
theorem len64_few (n : Nat) (h : n ≤ 12) (w : World) : Calls Try.prog 70 #[.int .u64 n] w (SomeInt w) := by
  have : n = 0 ∨ n = 1 ∨ n = 2 ∨ n = 3 ∨ n = 4 ∨ n = 5 ∨ n = 6 ∨ n = 7 ∨ n = 8 ∨ n = 9 ∨ n = 10 ∨ n = 11 ∨ n = 12 := by omega
  rcases this with rfl | rfl | rfl | rfl | rfl | rfl | rfl | rfl | rfl | rfl | rfl | rfl | rfl
  all_goals
    go_enter Try.func70, Try.ntmps70
    go_wp2
    go_ret
    exact ⟨⟨_, rfl⟩, rfl⟩

theorem bitsLen_few (n : Nat) (h : n ≤ 12) (w : World) : Calls Try.prog 58 #[.int .u64 n] w (SomeInt w) := by
  go_enter Try.func58, Try.ntmps58
  go_wp2_with (go_at_call 70; refine (len64_few n h _).mono ?_; rintro e w' ⟨⟨k, rfl⟩, rfl⟩)
  go_ret
  exact ⟨⟨_, rfl⟩, rfl⟩

/-- Nothing is told; the world is as it was. -/
def Nothing (w : World) (e : Ending) (w' : World) : Prop := e = .returned (.tuple #[]) ∧ w = w'

theorem insertion_none (a : Option Addr) (cap : Nat) (w : World) : Calls Try.prog 60 #[.slice a 0 cap, .int .i64 0, .int .i64 0] w (Nothing w) := by
  go_enter Try.func60, Try.ntmps60
  go_wp2
  refine wp_loop_rounds 1 ?_
  rw [rounds_succ]
  go_wp2
  go_end0
  exact ⟨rfl, rfl⟩

set_option maxRecDepth 100000 in
set_option maxHeartbeats 1000000 in
theorem pdq_few (blk off cap : Nat) (d : Array Int) (limit : Int) (w : World) (hH : Holds (Value.int .u64) w blk off d) (hsz : d.size ≤ 12) :
    Calls Try.prog 57 #[.slice (some ⟨blk, off, none⟩) d.size cap, .int .i64 0, .int .i64 d.size, .int .i64 limit] w (SortEnd w blk off (Sort.insertionSort ltInt d 0 d.size)) := by
  have HH := Lib.hid hH
  clear hH
  go_enter Try.func57, Try.ntmps57
  go_wp2
  refine wp_loop_rounds 1 ?_
  rw [rounds_succ]
  go_wp2_with (go_at_call 60; refine (insertion_any blk off cap d.size d _ HH.out (Nat.le_refl _) (by omega)).mono ?_; rintro e w' hE; obtain ⟨rfl, n, rfl⟩ := hE)
  go_end0
  exact ⟨rfl, n, rfl⟩

set_option maxRecDepth 100000 in
theorem pdq_none (a : Option Addr) (cap : Nat) (limit : Int) (w : World) :
    Calls Try.prog 57 #[.slice a 0 cap, .int .i64 0, .int .i64 0, .int .i64 limit] w (Nothing w) := by
  go_enter Try.func57, Try.ntmps57
  go_wp2
  refine wp_loop_rounds 1 ?_
  rw [rounds_succ]
  go_wp2_with fail
  refine (insertion_none _ _ _).mono ?_
  rintro e w' hE
  obtain ⟨rfl, rfl⟩ := hE
  go_wp2
  go_end0
  exact ⟨rfl, rfl⟩

theorem sort_few (blk off cap : Nat) (d : Array Int) (w : World) (hH : Holds (Value.int .u64) w blk off d) (hsz : d.size ≤ 12) :
    Calls Try.prog 49 #[.slice (some ⟨blk, off, none⟩) d.size cap] w (SortEnd w blk off (Sort.insertionSort ltInt d 0 d.size)) := by
  have HH := Lib.hid hH
  clear hH
  go_enter Try.func49, Try.ntmps49
  go_wp2_with (first
    | (go_at_call 58; refine (bitsLen_few d.size hsz _).mono ?_; rintro e w' ⟨⟨k, rfl⟩, rfl⟩)
    | (go_at_call 57; refine (pdq_few blk off cap d _ _ HH.out hsz).mono ?_; rintro e w' hE; obtain ⟨rfl, n, rfl⟩ := hE))
  go_end0
  exact ⟨rfl, n, rfl⟩
theorem sort_none (a : Option Addr) (cap : Nat) (w : World) :
    Calls Try.prog 49 #[.slice a 0 cap] w (Nothing w) := by
  go_enter Try.func49, Try.ntmps49
  go_wp2_with (first
    | (go_at_call 58; refine (bitsLen_few 0 (by omega) _).mono ?_; rintro e w' ⟨⟨k, rfl⟩, rfl⟩)
    | (go_at_call 57; refine (pdq_none _ _ _ _).mono ?_; rintro e w' hE; obtain ⟨rfl, rfl⟩ := hE))
  go_end0
  exact ⟨rfl, rfl⟩

theorem swoInt : SWO ltInt := ⟨fun x => by simp [ltInt], fun x y z h k => by simp [ltInt] at *; omega, fun x y z h k => by simp [ltInt] at *; omega⟩

/-- What the sort makes of numbers that differ. -/
def sortedOf (ss : List Int) : List Int := (Sort.insertionSort ltInt ss.toArray 0 ss.length).toList
theorem sortedOf_is {ss : List Int} (hn : ss.Nodup) : (sortedOf ss).length = ss.length ∧ (∀ x, x ∈ sortedOf ss ↔ x ∈ ss) ∧ Rises (sortedOf ss) := by
  obtain ⟨⟨h1, _, h3⟩, h4⟩ := insertionSort_holds swoInt ss.toArray 0 ss.length (Nat.zero_le _) (by simp)
  have hs : (Sort.insertionSort ltInt ss.toArray 0 ss.length).size = ss.length := by rw [h1]; simp
  have hp : (sortedOf ss).Perm ss := by
    have e0 : ∀ (X : Array Int) (n : Nat), X.size = n → X.extract 0 n = X := by rintro X n rfl; simp
    have e1 := e0 _ _ hs
    have e2 : ss.toArray.extract 0 ss.length = ss.toArray := by simp
    rw [e1, e2] at h3
    simpa [sortedOf] using h3
  refine ⟨hp.length_eq, fun x => hp.mem_iff, ?_⟩
  have hnd : (sortedOf ss).Nodup := hp.nodup_iff.2 hn
  unfold Rises
  rw [List.pairwise_iff_getElem]
  intro i j hi hj hij
  have hi' : i < ss.length := by rw [← hp.length_eq]; exact hi
  have hj' : j < ss.length := by rw [← hp.length_eq]; exact hj
  have h5 := h4 i j (Nat.zero_le _) hij hj'
  rw [getElem!_pos _ i (by omega), getElem!_pos _ j (by omega)] at h5
  have h6 : (sortedOf ss)[i] ≠ (sortedOf ss)[j] := List.pairwise_iff_getElem.1 hnd i j hi hj hij
  have e1 : (sortedOf ss)[i] = (Sort.insertionSort ltInt ss.toArray 0 ss.length)[i]'(by omega) := rfl
  have e2 : (sortedOf ss)[j] = (Sort.insertionSort ltInt ss.toArray 0 ss.length)[j]'(by omega) := rfl
  rw [e1, e2] at h6 ⊢
  simp [ltInt] at h5
  omega

end Go.Proofs.Ytgfnhledfhhkoaa
