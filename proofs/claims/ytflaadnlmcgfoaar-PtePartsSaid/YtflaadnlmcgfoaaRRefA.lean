/- The contracts of the document's own answers for layer 1: masks, pieces told and put, signs. -/
import Derived.Test.YtflaadnlmcgfoaaRRef
namespace Go.Proofs.YtflaadnlmcgfoaaR
open Go.RowKit
set_option linter.unusedVariables false
set_option maxRecDepth 100000

theorem in_any (k : Nat) (lo n : Int) (hk : k < 64) (w : World) :
    Calls Try.prog 39 #[.int .i64 k, .int .i64 lo, .int .i64 n] w fun e w' => e = .returned (.bool (decide (0 ≤ lo ∧ lo < 64 ∧ lo ≤ k ∧ (k : Int) - lo < n))) ∧ w = w' := by
  by_cases h1 : 0 ≤ lo
  · by_cases h2 : lo < 64
    · by_cases h3 : lo ≤ (k : Int)
      · by_cases h4 : (k : Int) - lo < n
        · have e : (0 ≤ lo ∧ lo < 64 ∧ lo ≤ k ∧ (k : Int) - lo < n) := ⟨h1, h2, h3, h4⟩
          rw [decide_eq_true e]
          clear e
          go_enter Try.func39, Try.ntmps39
          go_wp2
          go_ret
          exact ⟨rfl, rfl⟩
        · have e : ¬ (0 ≤ lo ∧ lo < 64 ∧ lo ≤ k ∧ (k : Int) - lo < n) := fun h => h4 h.2.2.2
          rw [decide_eq_false e]
          clear e
          go_enter Try.func39, Try.ntmps39
          go_wp2
          go_ret
          exact ⟨rfl, rfl⟩
      · have e : ¬ (0 ≤ lo ∧ lo < 64 ∧ lo ≤ k ∧ (k : Int) - lo < n) := fun h => h3 h.2.2.1
        rw [decide_eq_false e]
        clear e
        go_enter Try.func39, Try.ntmps39
        go_wp2
        go_ret
        exact ⟨rfl, rfl⟩
    · have e : ¬ (0 ≤ lo ∧ lo < 64 ∧ lo ≤ k ∧ (k : Int) - lo < n) := fun h => h2 h.2.1
      rw [decide_eq_false e]
      clear e
      go_enter Try.func39, Try.ntmps39
      go_wp2
      go_ret
      exact ⟨rfl, rfl⟩
  · have e : ¬ (0 ≤ lo ∧ lo < 64 ∧ lo ≤ k ∧ (k : Int) - lo < n) := fun h => h1 h.1
    rw [decide_eq_false e]
    clear e
    go_enter Try.func39, Try.ntmps39
    go_wp2
    go_ret
    exact ⟨rfl, rfl⟩

/-- What stands when a word has been split into a new array, and a second one laid behind it. -/
theorem two_arrays {w w1 : World} (hb : Below w.heap.size w w1) (f : Nat → Bool) : HoldsB (((w1.alloc (.cells (barr 64 fun _ => false) 45)).setRow w1.heap.size (barr 64 f)).alloc (.cells (barr 64 fun _ => false) 45)) w1.heap.size 45 64 f ∧
    HoldsB (((w1.alloc (.cells (barr 64 fun _ => false) 45)).setRow w1.heap.size (barr 64 f)).alloc (.cells (barr 64 fun _ => false) 45)) (w1.heap.size + 1) 45 64 (fun _ => false) ∧
    Below w.heap.size w (((w1.alloc (.cells (barr 64 fun _ => false) 45)).setRow w1.heap.size (barr 64 f)).alloc (.cells (barr 64 fun _ => false) 45)) := by
  have hs := hb.size
  have e := laid_size w1 (.cells (barr 64 fun _ => false) 45) w1.heap.size (barr 64 f)
  refine ⟨(HoldsB.laid w1 45 64 _ f).alloc _, ?_, (below_setRow (hb.alloc hs _) hs _).alloc (by rw [e]; omega) _⟩
  have := HoldsB.new ((w1.alloc (.cells (barr 64 fun _ => false) 45)).setRow w1.heap.size (barr 64 f)) 45 64 (fun _ => false)
  rw [e] at this; exact this

set_option maxHeartbeats 400000 in
set_option maxRecDepth 100000 in
theorem refField_out (x lo n : Int) (hx : In64 x) (h : ¬ (0 ≤ lo ∧ lo < 64)) (w : World) :
    Calls Try.prog 35 #[.int .u64 x, .int .i64 lo, .int .i64 n] w fun e w' => e = .returned (.int .u64 (U (fieldB (V x) lo n))) ∧ Below w.heap.size w w' := by
  have HD := Lib.hid (fun k : Nat => decide_eq_false (show ¬ (0 ≤ lo ∧ lo < 64 ∧ lo ≤ k ∧ (k : Int) - lo < n) from fun e => h ⟨e.1, e.2.1⟩))
  have HE : Hid (U (ofF fun _ => false) = U (fieldB (V x) lo n)) := by
    rw [← field_out h]; rfl
  clear h
  go_enter Try.func35, Try.ntmps35
  go_wp2_with fail
  refine (split_any x hx _).mono ?_
  rintro e w1 ⟨rfl, hb1⟩
  go_wp2_with (refine wpList_store_row rfl _ _ _ rfl w1.heap.size _ rfl rfl 45 _ (heap_alloc_new w1 _) ?_ (by rw [barr_size]; rfl) (barr_one _ _) ?_; · exact size48.trans (by rw [barr_size]))
  simp only [zero64]
  have A := two_arrays hb1 (V x).getLsbD
  go_loopw [9] (fun i wr => ∃ k : Nat, k ≤ 64 ∧ i = .int .i64 k ∧ HoldsB wr (w1.heap.size + 1) 45 64 (fun _ => false) ∧ Below w.heap.size w wr)
    (fun i _ => 64 - (intOf i).toNat)
  case atStart => exact ⟨0, Nat.zero_le _, rfl, A.2.1, A.2.2⟩
  case round =>
    obtain ⟨k, hk, rfl, h2, hb⟩ := hrel
    clear A
    by_cases hlt : k < 64
    · have hd := HD.out k
      go_wp2_with (go_at_call 39; refine (in_any _ _ _ hlt _).mono ?_; rintro e w' ⟨rfl, rfl⟩)
      exact ⟨⟨k + 1, by omega, by go_num, h2, hb⟩, by simp [intOf]; omega⟩
    · obtain rfl : k = 64 := by omega
      go_wp2_with (first
        | (go_at_call 40; refine (join_any _ _).mono ?_; rintro e w' ⟨rfl, hj⟩)
        | (refine wpList_load_row rfl _ _ rfl (w1.heap.size + 1) rfl 45 _ _ _ h2 Try.underlying45 rfl ?_ ?_; · exact size48.trans (by rw [barr_size])))
      go_ret
      exact ⟨ret_int HE.out, hb.trans (hj.mono hb.size)⟩

set_option maxHeartbeats 800000 in
set_option maxRecDepth 100000 in
theorem refField_in (x lo n : Int) (hx : In64 x) (h0 : 0 ≤ lo) (h1 : lo < 64) (w : World) :
    Calls Try.prog 35 #[.int .u64 x, .int .i64 lo, .int .i64 n] w fun e w' => e = .returned (.int .u64 (U (fieldB (V x) lo n))) ∧ Below w.heap.size w w' := by
  obtain ⟨l, rfl⟩ := Int.eq_ofNat_of_zero_le h0
  have HE : Hid (fieldB (V x) l n = ofF fun i => decide ((i : Int) < n) && (V x).getLsbD (i + l)) := by
    unfold fieldB; rw [if_pos ⟨h0, h1⟩]; rfl
  have hl : l < 64 := by omega
  go_enter Try.func35, Try.ntmps35
  go_wp2_with fail
  refine (split_any x hx _).mono ?_
  rintro e w1 ⟨rfl, hb1⟩
  go_wp2_with (refine wpList_store_row rfl _ _ _ rfl w1.heap.size _ rfl rfl 45 _ (heap_alloc_new w1 _) ?_ (by rw [barr_size]; rfl) (barr_one _ _) ?_; · exact size48.trans (by rw [barr_size]))
  simp only [zero64]
  have A := two_arrays hb1 (V x).getLsbD
  go_loopw [9] (fun i wr => ∃ k : Nat, k ≤ 64 ∧ i = .int .i64 k ∧ HoldsB wr w1.heap.size 45 64 (V x).getLsbD ∧ HoldsB wr (w1.heap.size + 1) 45 64 (fun j => decide (j + l < k) && (decide ((j : Int) < n) && (V x).getLsbD (j + l))) ∧ Below w.heap.size w wr)
    (fun i _ => 64 - (intOf i).toNat)
  case atStart => exact ⟨0, Nat.zero_le _, rfl, A.1, A.2.1.congr fun i _ => by simp, A.2.2⟩
  case round =>
    obtain ⟨k, hk, rfl, hA, h2, hb⟩ := hrel
    clear A
    by_cases hlt : k < 64
    · by_cases hin : 0 ≤ (l : Int) ∧ (l : Int) < 64 ∧ (l : Int) ≤ k ∧ (k : Int) - l < n
      · have hd := decide_eq_true hin
        obtain ⟨_, _, hi3, hi4⟩ := hin
        have hle : l ≤ k := by omega
        have hc := hA.cell hlt
        have hc2 := h2.cell (show k - l < 64 by omega)
        have hf := h2.frozen (k - l)
        go_wp2_with (go_at_call 39; refine (in_any _ _ _ hlt _).mono ?_; rintro e w' ⟨rfl, rfl⟩)
        refine ⟨⟨k + 1, by omega, by go_num, hA.other (by simp) _, (h2.set (k - l) _).congr fun i hi => ?_, hb.setCell (by have := hb1.size; simp; omega) _⟩, by simp [intOf]; omega⟩
        by_cases e : i = k - l
        · subst e
          rw [if_pos rfl, decide_eq_true (show k - l + l < k + 1 by omega), decide_eq_true (show ((k - l : Nat) : Int) < n by omega), show k - l + l = k by omega]; rfl
        · rw [if_neg e]; congr 1; rw [decide_eq_decide]; omega
      · have hd := decide_eq_false hin
        go_wp2_with (go_at_call 39; refine (in_any _ _ _ hlt _).mono ?_; rintro e w' ⟨rfl, rfl⟩)
        refine ⟨⟨k + 1, by omega, by go_num, hA, h2.congr fun i hi => ?_, hb⟩, by simp [intOf]; omega⟩
        by_cases e : i + l = k
        · rw [decide_eq_false (show ¬ (i : Int) < n by omega)]; simp
        · congr 1; rw [decide_eq_decide]; omega
    · obtain rfl : k = 64 := by omega
      have h3 : HoldsB wr (w1.heap.size + 1) 45 64 (fun j => decide ((j : Int) < n) && (V x).getLsbD (j + l)) := h2.congr fun i hi => by
        by_cases e : i + l < 64
        · rw [decide_eq_true e, Bool.true_and]
        · rw [bit_of_ge _ (by omega)]; simp
      clear h2
      go_wp2_with (first
        | (go_at_call 40; refine (join_any _ _).mono ?_; rintro e w' ⟨rfl, hj⟩)
        | (refine wpList_load_row rfl _ _ rfl (w1.heap.size + 1) rfl 45 _ _ _ h3 Try.underlying45 rfl ?_ ?_; · exact size48.trans (by rw [barr_size])))
      go_ret
      exact ⟨ret_int (by rw [HE.out]), hb.trans (hj.mono hb.size)⟩

theorem refField_any (x lo n : Int) (hx : In64 x) (w : World) :
    Calls Try.prog 35 #[.int .u64 x, .int .i64 lo, .int .i64 n] w fun e w' => e = .returned (.int .u64 (U (fieldB (V x) lo n))) ∧ Below w.heap.size w w' := by
  by_cases h : 0 ≤ lo ∧ lo < 64
  · exact refField_in x lo n hx h.1 h.2 w
  · exact refField_out x lo n hx h w

end Go.Proofs.YtflaadnlmcgfoaaR
