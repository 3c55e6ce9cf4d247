/- Layer 9: write: the bits of what each form says of an instruction. -/
import Derived.Test.YtehlihhnkojjeaaDoorDcB
namespace Go.Proofs.YtehlihhnkojjeaaDoor
open Go.RowKit
set_option linter.unusedVariables false
set_option maxRecDepth 100000

/-- Whether a form's number fits (0: there is no such form). -/
def fitB (k : Nat) (n : Int) : Bool := decide (1 ≤ k) && ((formL k).number ((formL k).word n) == n)
theorem progPutF (k : Nat) (hk : k ≤ 9) (n : Int) (w : World) :
    Calls Tryd.prog 43 #[.int .i64 k, .int .i64 n] w fun e w' => e = .returned (.tuple #[.int .u32 (putF k n), .bool (fitB k n)]) ∧ Below w.heap.size w w' := by
  by_cases h0 : k = 0
  · subst h0
    have e : putF 0 n = 0 := by unfold putF; rw [word0]; split <;> rfl
    have e2 : fitB 0 n = false := rfl
    rw [e, e2]
    exact progPut_no 0 (by omega) n w
  · cases hq : ((formL k).number ((formL k).word n) == n)
    · have e : putF k n = 0 := by unfold putF; rw [hq]; rfl
      have e2 : fitB k n = false := by unfold fitB; rw [hq]; simp
      rw [e, e2]
      exact progPut_not k (by omega) n hq w
    · have e : putF k n = (formL k).word n := by unfold putF; rw [hq]; rfl
      have e2 : fitB k n = true := by unfold fitB; rw [hq]; simp; omega
      rw [e, e2]
      exact progPut_yes k (by omega) n hq w
theorem mark_int (b : Bool) (s : Int) (h0 : 0 ≤ s) (h1 : s ≤ 31) (w : World) :
    Calls Tryd.prog 42 #[.bool b, .int .i64 s] w fun e w' => e = .returned (.int .u32 (markZ b s.toNat)) ∧ w' = w := by
  obtain ⟨n, rfl⟩ := Int.eq_ofNat_of_zero_le h0
  exact (mark_any b n (by omega) w).mono fun e w' h => ⟨h.1, h.2.symm⟩
/-- What stands behind a call that is made with two new blocks. -/
theorem rows2 {w w2 : World} {A B : Array Value} {a b : TypeId} (h : Below ((w.alloc (.cells A a)).alloc (.cells B b)).heap.size ((w.alloc (.cells A a)).alloc (.cells B b)) w2) :
    Hid (Below w.heap.size w w2) ∧ (∀ j, w2.cell? ⟨w.heap.size, j, none⟩ = A[j]?) ∧ (∀ j, w2.cell? ⟨w.heap.size + 1, j, none⟩ = B[j]?) ∧ w.heap.size + 1 < w2.heap.size := by
  have s1 : (w.alloc (.cells A a)).heap.size = w.heap.size + 1 := World.size_alloc _ _
  have s2 : ((w.alloc (.cells A a)).alloc (.cells B b)).heap.size = w.heap.size + 1 + 1 := by rw [World.size_alloc, s1]
  have e0 : ((w.alloc (.cells A a)).alloc (.cells B b)).heap[w.heap.size]? = some (.cells A a (0, 0)) := by
    rw [Below.heap_alloc _ _ _ (by omega)]; exact heap_alloc_new w _
  have e1 : ((w.alloc (.cells A a)).alloc (.cells B b)).heap[w.heap.size + 1]? = some (.cells B b (0, 0)) := by
    rw [← s1]; exact heap_alloc_new _ _
  exact ⟨Lib.hid ((((Below.refl _ _).alloc (Nat.le_refl _) _).alloc (by omega) _).trans (h.mono (by omega))), fun j => cell_of_row _ _ _ _ _ _ ((h.block _ (by omega)).trans e0), fun j => cell_of_row _ _ _ _ _ _ ((h.block _ (by omega)).trans e1), by have := h.size; omega⟩

set_option maxHeartbeats 1000000 in
theorem write_0 (i : Ins) (w : World) :
    Calls Tryd.prog 25 #[.agg #[.int .u32 127, .bool true, .bool false, .bool false, .int .i64 4, .bool false, .bool false], .agg #[.int .i64 i.op, .int .i64 i.rd, .int .i64 i.a, .int .i64 i.b, .int .i64 i.imm, .int .i64 i.csr, .bool i.aq, .bool i.rl]] w fun e w' => e = .returned (.int .u32 (bits .or .u32 (bits .or .u32 0 (put5 i.rd 7)) (putF 4 i.imm))) ∧ Below w.heap.size w w' := by
  have H7 : Hid (∀ n w, Calls Tryd.prog 41 #[.int .i64 n, .int .i64 7] w fun e w' => e = .returned (.int .u32 (put5 n 7)) ∧ w = w') := Lib.hid fun n w => put_any n 7 (by omega) w
  have H15 : Hid (∀ n w, Calls Tryd.prog 41 #[.int .i64 n, .int .i64 15] w fun e w' => e = .returned (.int .u32 (put5 n 15)) ∧ w = w') := Lib.hid fun n w => put_any n 15 (by omega) w
  have H20 : Hid (∀ n w, Calls Tryd.prog 41 #[.int .i64 n, .int .i64 20] w fun e w' => e = .returned (.int .u32 (put5 n 20)) ∧ w = w') := Lib.hid fun n w => put_any n 20 (by omega) w
  have H8 : Hid (∀ n w, Calls Tryd.prog 43 #[.int .i64 8, .int .i64 n] w fun e w' => e = .returned (.tuple #[.int .u32 (putF 8 n), .bool (fitB 8 n)]) ∧ Below w.heap.size w w') := Lib.hid fun n w => progPutF 8 (by omega) n w
  have HI : Hid (∀ n w, Calls Tryd.prog 43 #[.int .i64 4, .int .i64 n] w fun e w' => e = .returned (.tuple #[.int .u32 (putF 4 n), .bool (fitB 4 n)]) ∧ Below w.heap.size w w') := Lib.hid fun n w => progPutF 4 (by omega) n w
  go_enter Tryd.func25, Tryd.ntmps25
  go_wp2_with (first
    | (go_at_call 41; (with_reducible refine (H7.out _ _).mono ?_); rintro e w3 ⟨rfl, rfl⟩)
    | (go_at_call 43; (with_reducible refine (HI.out _ _).mono ?_); rintro e ww2 ⟨rfl, hb2⟩; obtain ⟨HB2, hp, hq, hs⟩ := rows2 hb2; clear hb2 hp hq))
  go_ret
  exact ⟨rfl, HB2.out⟩

set_option maxHeartbeats 1000000 in
theorem write_1 (i : Ins) (w : World) :
    Calls Tryd.prog 25 #[.agg #[.int .u32 127, .bool true, .bool false, .bool false, .int .i64 5, .bool false, .bool false], .agg #[.int .i64 i.op, .int .i64 i.rd, .int .i64 i.a, .int .i64 i.b, .int .i64 i.imm, .int .i64 i.csr, .bool i.aq, .bool i.rl]] w fun e w' => e = .returned (.int .u32 (bits .or .u32 (bits .or .u32 0 (put5 i.rd 7)) (putF 5 i.imm))) ∧ Below w.heap.size w w' := by
  have H7 : Hid (∀ n w, Calls Tryd.prog 41 #[.int .i64 n, .int .i64 7] w fun e w' => e = .returned (.int .u32 (put5 n 7)) ∧ w = w') := Lib.hid fun n w => put_any n 7 (by omega) w
  have H15 : Hid (∀ n w, Calls Tryd.prog 41 #[.int .i64 n, .int .i64 15] w fun e w' => e = .returned (.int .u32 (put5 n 15)) ∧ w = w') := Lib.hid fun n w => put_any n 15 (by omega) w
  have H20 : Hid (∀ n w, Calls Tryd.prog 41 #[.int .i64 n, .int .i64 20] w fun e w' => e = .returned (.int .u32 (put5 n 20)) ∧ w = w') := Lib.hid fun n w => put_any n 20 (by omega) w
  have H8 : Hid (∀ n w, Calls Tryd.prog 43 #[.int .i64 8, .int .i64 n] w fun e w' => e = .returned (.tuple #[.int .u32 (putF 8 n), .bool (fitB 8 n)]) ∧ Below w.heap.size w w') := Lib.hid fun n w => progPutF 8 (by omega) n w
  have HI : Hid (∀ n w, Calls Tryd.prog 43 #[.int .i64 5, .int .i64 n] w fun e w' => e = .returned (.tuple #[.int .u32 (putF 5 n), .bool (fitB 5 n)]) ∧ Below w.heap.size w w') := Lib.hid fun n w => progPutF 5 (by omega) n w
  go_enter Tryd.func25, Tryd.ntmps25
  go_wp2_with (first
    | (go_at_call 41; (with_reducible refine (H7.out _ _).mono ?_); rintro e w3 ⟨rfl, rfl⟩)
    | (go_at_call 43; (with_reducible refine (HI.out _ _).mono ?_); rintro e ww2 ⟨rfl, hb2⟩; obtain ⟨HB2, hp, hq, hs⟩ := rows2 hb2; clear hb2 hp hq))
  go_ret
  exact ⟨rfl, HB2.out⟩

set_option maxHeartbeats 1000000 in
theorem write_2 (i : Ins) (w : World) :
    Calls Tryd.prog 25 #[.agg #[.int .u32 28799, .bool true, .bool true, .bool false, .int .i64 1, .bool false, .bool false], .agg #[.int .i64 i.op, .int .i64 i.rd, .int .i64 i.a, .int .i64 i.b, .int .i64 i.imm, .int .i64 i.csr, .bool i.aq, .bool i.rl]] w fun e w' => e = .returned (.int .u32 (bits .or .u32 (bits .or .u32 (bits .or .u32 0 (put5 i.rd 7)) (put5 i.a 15)) (putF 1 i.imm))) ∧ Below w.heap.size w w' := by
  have H7 : Hid (∀ n w, Calls Tryd.prog 41 #[.int .i64 n, .int .i64 7] w fun e w' => e = .returned (.int .u32 (put5 n 7)) ∧ w = w') := Lib.hid fun n w => put_any n 7 (by omega) w
  have H15 : Hid (∀ n w, Calls Tryd.prog 41 #[.int .i64 n, .int .i64 15] w fun e w' => e = .returned (.int .u32 (put5 n 15)) ∧ w = w') := Lib.hid fun n w => put_any n 15 (by omega) w
  have H20 : Hid (∀ n w, Calls Tryd.prog 41 #[.int .i64 n, .int .i64 20] w fun e w' => e = .returned (.int .u32 (put5 n 20)) ∧ w = w') := Lib.hid fun n w => put_any n 20 (by omega) w
  have H8 : Hid (∀ n w, Calls Tryd.prog 43 #[.int .i64 8, .int .i64 n] w fun e w' => e = .returned (.tuple #[.int .u32 (putF 8 n), .bool (fitB 8 n)]) ∧ Below w.heap.size w w') := Lib.hid fun n w => progPutF 8 (by omega) n w
  have HI : Hid (∀ n w, Calls Tryd.prog 43 #[.int .i64 1, .int .i64 n] w fun e w' => e = .returned (.tuple #[.int .u32 (putF 1 n), .bool (fitB 1 n)]) ∧ Below w.heap.size w w') := Lib.hid fun n w => progPutF 1 (by omega) n w
  go_enter Tryd.func25, Tryd.ntmps25
  go_wp2_with (first
    | (go_at_call 41; (with_reducible refine (H7.out _ _).mono ?_); rintro e w3 ⟨rfl, rfl⟩)
    | (go_at_call 41; (with_reducible refine (H15.out _ _).mono ?_); rintro e w3 ⟨rfl, rfl⟩)
    | (go_at_call 43; (with_reducible refine (HI.out _ _).mono ?_); rintro e ww2 ⟨rfl, hb2⟩; obtain ⟨HB2, hp, hq, hs⟩ := rows2 hb2; clear hb2 hp hq))
  go_ret
  exact ⟨rfl, HB2.out⟩

set_option maxHeartbeats 1000000 in
theorem write_3 (i : Ins) (w : World) :
    Calls Tryd.prog 25 #[.agg #[.int .u32 28799, .bool false, .bool true, .bool true, .int .i64 3, .bool false, .bool false], .agg #[.int .i64 i.op, .int .i64 i.rd, .int .i64 i.a, .int .i64 i.b, .int .i64 i.imm, .int .i64 i.csr, .bool i.aq, .bool i.rl]] w fun e w' => e = .returned (.int .u32 (bits .or .u32 (bits .or .u32 (bits .or .u32 (0) (put5 i.a 15)) (put5 i.b 20)) (putF 3 i.imm))) ∧ Below w.heap.size w w' := by
  have H7 : Hid (∀ n w, Calls Tryd.prog 41 #[.int .i64 n, .int .i64 7] w fun e w' => e = .returned (.int .u32 (put5 n 7)) ∧ w = w') := Lib.hid fun n w => put_any n 7 (by omega) w
  have H15 : Hid (∀ n w, Calls Tryd.prog 41 #[.int .i64 n, .int .i64 15] w fun e w' => e = .returned (.int .u32 (put5 n 15)) ∧ w = w') := Lib.hid fun n w => put_any n 15 (by omega) w
  have H20 : Hid (∀ n w, Calls Tryd.prog 41 #[.int .i64 n, .int .i64 20] w fun e w' => e = .returned (.int .u32 (put5 n 20)) ∧ w = w') := Lib.hid fun n w => put_any n 20 (by omega) w
  have H8 : Hid (∀ n w, Calls Tryd.prog 43 #[.int .i64 8, .int .i64 n] w fun e w' => e = .returned (.tuple #[.int .u32 (putF 8 n), .bool (fitB 8 n)]) ∧ Below w.heap.size w w') := Lib.hid fun n w => progPutF 8 (by omega) n w
  have HI : Hid (∀ n w, Calls Tryd.prog 43 #[.int .i64 3, .int .i64 n] w fun e w' => e = .returned (.tuple #[.int .u32 (putF 3 n), .bool (fitB 3 n)]) ∧ Below w.heap.size w w') := Lib.hid fun n w => progPutF 3 (by omega) n w
  go_enter Tryd.func25, Tryd.ntmps25
  go_wp2_with (first
    | (go_at_call 41; (with_reducible refine (H15.out _ _).mono ?_); rintro e w3 ⟨rfl, rfl⟩)
    | (go_at_call 41; (with_reducible refine (H20.out _ _).mono ?_); rintro e w3 ⟨rfl, rfl⟩)
    | (go_at_call 43; (with_reducible refine (HI.out _ _).mono ?_); rintro e ww2 ⟨rfl, hb2⟩; obtain ⟨HB2, hp, hq, hs⟩ := rows2 hb2; clear hb2 hp hq))
  go_ret
  exact ⟨rfl, HB2.out⟩

set_option maxHeartbeats 1000000 in
theorem write_4 (i : Ins) (w : World) :
    Calls Tryd.prog 25 #[.agg #[.int .u32 28799, .bool false, .bool true, .bool true, .int .i64 2, .bool false, .bool false], .agg #[.int .i64 i.op, .int .i64 i.rd, .int .i64 i.a, .int .i64 i.b, .int .i64 i.imm, .int .i64 i.csr, .bool i.aq, .bool i.rl]] w fun e w' => e = .returned (.int .u32 (bits .or .u32 (bits .or .u32 (bits .or .u32 (0) (put5 i.a 15)) (put5 i.b 20)) (putF 2 i.imm))) ∧ Below w.heap.size w w' := by
  have H7 : Hid (∀ n w, Calls Tryd.prog 41 #[.int .i64 n, .int .i64 7] w fun e w' => e = .returned (.int .u32 (put5 n 7)) ∧ w = w') := Lib.hid fun n w => put_any n 7 (by omega) w
  have H15 : Hid (∀ n w, Calls Tryd.prog 41 #[.int .i64 n, .int .i64 15] w fun e w' => e = .returned (.int .u32 (put5 n 15)) ∧ w = w') := Lib.hid fun n w => put_any n 15 (by omega) w
  have H20 : Hid (∀ n w, Calls Tryd.prog 41 #[.int .i64 n, .int .i64 20] w fun e w' => e = .returned (.int .u32 (put5 n 20)) ∧ w = w') := Lib.hid fun n w => put_any n 20 (by omega) w
  have H8 : Hid (∀ n w, Calls Tryd.prog 43 #[.int .i64 8, .int .i64 n] w fun e w' => e = .returned (.tuple #[.int .u32 (putF 8 n), .bool (fitB 8 n)]) ∧ Below w.heap.size w w') := Lib.hid fun n w => progPutF 8 (by omega) n w
  have HI : Hid (∀ n w, Calls Tryd.prog 43 #[.int .i64 2, .int .i64 n] w fun e w' => e = .returned (.tuple #[.int .u32 (putF 2 n), .bool (fitB 2 n)]) ∧ Below w.heap.size w w') := Lib.hid fun n w => progPutF 2 (by omega) n w
  go_enter Tryd.func25, Tryd.ntmps25
  go_wp2_with (first
    | (go_at_call 41; (with_reducible refine (H15.out _ _).mono ?_); rintro e w3 ⟨rfl, rfl⟩)
    | (go_at_call 41; (with_reducible refine (H20.out _ _).mono ?_); rintro e w3 ⟨rfl, rfl⟩)
    | (go_at_call 43; (with_reducible refine (HI.out _ _).mono ?_); rintro e ww2 ⟨rfl, hb2⟩; obtain ⟨HB2, hp, hq, hs⟩ := rows2 hb2; clear hb2 hp hq))
  go_ret
  exact ⟨rfl, HB2.out⟩

set_option maxHeartbeats 1000000 in
theorem write_5 (i : Ins) (w : World) :
    Calls Tryd.prog 25 #[.agg #[.int .u32 4227887231, .bool true, .bool true, .bool false, .int .i64 6, .bool false, .bool false], .agg #[.int .i64 i.op, .int .i64 i.rd, .int .i64 i.a, .int .i64 i.b, .int .i64 i.imm, .int .i64 i.csr, .bool i.aq, .bool i.rl]] w fun e w' => e = .returned (.int .u32 (bits .or .u32 (bits .or .u32 (bits .or .u32 0 (put5 i.rd 7)) (put5 i.a 15)) (putF 6 i.imm))) ∧ Below w.heap.size w w' := by
  have H7 : Hid (∀ n w, Calls Tryd.prog 41 #[.int .i64 n, .int .i64 7] w fun e w' => e = .returned (.int .u32 (put5 n 7)) ∧ w = w') := Lib.hid fun n w => put_any n 7 (by omega) w
  have H15 : Hid (∀ n w, Calls Tryd.prog 41 #[.int .i64 n, .int .i64 15] w fun e w' => e = .returned (.int .u32 (put5 n 15)) ∧ w = w') := Lib.hid fun n w => put_any n 15 (by omega) w
  have H20 : Hid (∀ n w, Calls Tryd.prog 41 #[.int .i64 n, .int .i64 20] w fun e w' => e = .returned (.int .u32 (put5 n 20)) ∧ w = w') := Lib.hid fun n w => put_any n 20 (by omega) w
  have H8 : Hid (∀ n w, Calls Tryd.prog 43 #[.int .i64 8, .int .i64 n] w fun e w' => e = .returned (.tuple #[.int .u32 (putF 8 n), .bool (fitB 8 n)]) ∧ Below w.heap.size w w') := Lib.hid fun n w => progPutF 8 (by omega) n w
  have HI : Hid (∀ n w, Calls Tryd.prog 43 #[.int .i64 6, .int .i64 n] w fun e w' => e = .returned (.tuple #[.int .u32 (putF 6 n), .bool (fitB 6 n)]) ∧ Below w.heap.size w w') := Lib.hid fun n w => progPutF 6 (by omega) n w
  go_enter Tryd.func25, Tryd.ntmps25
  go_wp2_with (first
    | (go_at_call 41; (with_reducible refine (H7.out _ _).mono ?_); rintro e w3 ⟨rfl, rfl⟩)
    | (go_at_call 41; (with_reducible refine (H15.out _ _).mono ?_); rintro e w3 ⟨rfl, rfl⟩)
    | (go_at_call 43; (with_reducible refine (HI.out _ _).mono ?_); rintro e ww2 ⟨rfl, hb2⟩; obtain ⟨HB2, hp, hq, hs⟩ := rows2 hb2; clear hb2 hp hq))
  go_ret
  exact ⟨rfl, HB2.out⟩

set_option maxHeartbeats 1000000 in
theorem write_6 (i : Ins) (w : World) :
    Calls Tryd.prog 25 #[.agg #[.int .u32 4261441663, .bool true, .bool true, .bool false, .int .i64 7, .bool false, .bool false], .agg #[.int .i64 i.op, .int .i64 i.rd, .int .i64 i.a, .int .i64 i.b, .int .i64 i.imm, .int .i64 i.csr, .bool i.aq, .bool i.rl]] w fun e w' => e = .returned (.int .u32 (bits .or .u32 (bits .or .u32 (bits .or .u32 0 (put5 i.rd 7)) (put5 i.a 15)) (putF 7 i.imm))) ∧ Below w.heap.size w w' := by
  have H7 : Hid (∀ n w, Calls Tryd.prog 41 #[.int .i64 n, .int .i64 7] w fun e w' => e = .returned (.int .u32 (put5 n 7)) ∧ w = w') := Lib.hid fun n w => put_any n 7 (by omega) w
  have H15 : Hid (∀ n w, Calls Tryd.prog 41 #[.int .i64 n, .int .i64 15] w fun e w' => e = .returned (.int .u32 (put5 n 15)) ∧ w = w') := Lib.hid fun n w => put_any n 15 (by omega) w
  have H20 : Hid (∀ n w, Calls Tryd.prog 41 #[.int .i64 n, .int .i64 20] w fun e w' => e = .returned (.int .u32 (put5 n 20)) ∧ w = w') := Lib.hid fun n w => put_any n 20 (by omega) w
  have H8 : Hid (∀ n w, Calls Tryd.prog 43 #[.int .i64 8, .int .i64 n] w fun e w' => e = .returned (.tuple #[.int .u32 (putF 8 n), .bool (fitB 8 n)]) ∧ Below w.heap.size w w') := Lib.hid fun n w => progPutF 8 (by omega) n w
  have HI : Hid (∀ n w, Calls Tryd.prog 43 #[.int .i64 7, .int .i64 n] w fun e w' => e = .returned (.tuple #[.int .u32 (putF 7 n), .bool (fitB 7 n)]) ∧ Below w.heap.size w w') := Lib.hid fun n w => progPutF 7 (by omega) n w
  go_enter Tryd.func25, Tryd.ntmps25
  go_wp2_with (first
    | (go_at_call 41; (with_reducible refine (H7.out _ _).mono ?_); rintro e w3 ⟨rfl, rfl⟩)
    | (go_at_call 41; (with_reducible refine (H15.out _ _).mono ?_); rintro e w3 ⟨rfl, rfl⟩)
    | (go_at_call 43; (with_reducible refine (HI.out _ _).mono ?_); rintro e ww2 ⟨rfl, hb2⟩; obtain ⟨HB2, hp, hq, hs⟩ := rows2 hb2; clear hb2 hp hq))
  go_ret
  exact ⟨rfl, HB2.out⟩

set_option maxHeartbeats 1000000 in
theorem write_7 (i : Ins) (w : World) :
    Calls Tryd.prog 25 #[.agg #[.int .u32 4261441663, .bool true, .bool true, .bool true, .int .i64 0, .bool false, .bool false], .agg #[.int .i64 i.op, .int .i64 i.rd, .int .i64 i.a, .int .i64 i.b, .int .i64 i.imm, .int .i64 i.csr, .bool i.aq, .bool i.rl]] w fun e w' => e = .returned (.int .u32 (bits .or .u32 (bits .or .u32 (bits .or .u32 (bits .or .u32 0 (put5 i.rd 7)) (put5 i.a 15)) (put5 i.b 20)) (putF 0 i.imm))) ∧ Below w.heap.size w w' := by
  have H7 : Hid (∀ n w, Calls Tryd.prog 41 #[.int .i64 n, .int .i64 7] w fun e w' => e = .returned (.int .u32 (put5 n 7)) ∧ w = w') := Lib.hid fun n w => put_any n 7 (by omega) w
  have H15 : Hid (∀ n w, Calls Tryd.prog 41 #[.int .i64 n, .int .i64 15] w fun e w' => e = .returned (.int .u32 (put5 n 15)) ∧ w = w') := Lib.hid fun n w => put_any n 15 (by omega) w
  have H20 : Hid (∀ n w, Calls Tryd.prog 41 #[.int .i64 n, .int .i64 20] w fun e w' => e = .returned (.int .u32 (put5 n 20)) ∧ w = w') := Lib.hid fun n w => put_any n 20 (by omega) w
  have H8 : Hid (∀ n w, Calls Tryd.prog 43 #[.int .i64 8, .int .i64 n] w fun e w' => e = .returned (.tuple #[.int .u32 (putF 8 n), .bool (fitB 8 n)]) ∧ Below w.heap.size w w') := Lib.hid fun n w => progPutF 8 (by omega) n w
  have HI : Hid (∀ n w, Calls Tryd.prog 43 #[.int .i64 0, .int .i64 n] w fun e w' => e = .returned (.tuple #[.int .u32 (putF 0 n), .bool (fitB 0 n)]) ∧ Below w.heap.size w w') := Lib.hid fun n w => progPutF 0 (by omega) n w
  go_enter Tryd.func25, Tryd.ntmps25
  go_wp2_with (first
    | (go_at_call 41; (with_reducible refine (H7.out _ _).mono ?_); rintro e w3 ⟨rfl, rfl⟩)
    | (go_at_call 41; (with_reducible refine (H15.out _ _).mono ?_); rintro e w3 ⟨rfl, rfl⟩)
    | (go_at_call 41; (with_reducible refine (H20.out _ _).mono ?_); rintro e w3 ⟨rfl, rfl⟩)
    | (go_at_call 43; (with_reducible refine (HI.out _ _).mono ?_); rintro e ww2 ⟨rfl, hb2⟩; obtain ⟨HB2, hp, hq, hs⟩ := rows2 hb2; clear hb2 hp hq))
  go_ret
  exact ⟨rfl, HB2.out⟩

set_option maxHeartbeats 1000000 in
theorem write_8 (i : Ins) (w : World) :
    Calls Tryd.prog 25 #[.agg #[.int .u32 4193284223, .bool true, .bool true, .bool false, .int .i64 0, .bool false, .bool true], .agg #[.int .i64 i.op, .int .i64 i.rd, .int .i64 i.a, .int .i64 i.b, .int .i64 i.imm, .int .i64 i.csr, .bool i.aq, .bool i.rl]] w fun e w' => e = .returned (.int .u32 (bits .or .u32 (bits .or .u32 (bits .or .u32 (bits .or .u32 0 (put5 i.rd 7)) (put5 i.a 15)) (bits .or .u32 (markZ i.aq 26) (markZ i.rl 25))) (putF 0 i.imm))) ∧ Below w.heap.size w w' := by
  have H7 : Hid (∀ n w, Calls Tryd.prog 41 #[.int .i64 n, .int .i64 7] w fun e w' => e = .returned (.int .u32 (put5 n 7)) ∧ w = w') := Lib.hid fun n w => put_any n 7 (by omega) w
  have H15 : Hid (∀ n w, Calls Tryd.prog 41 #[.int .i64 n, .int .i64 15] w fun e w' => e = .returned (.int .u32 (put5 n 15)) ∧ w = w') := Lib.hid fun n w => put_any n 15 (by omega) w
  have H20 : Hid (∀ n w, Calls Tryd.prog 41 #[.int .i64 n, .int .i64 20] w fun e w' => e = .returned (.int .u32 (put5 n 20)) ∧ w = w') := Lib.hid fun n w => put_any n 20 (by omega) w
  have H8 : Hid (∀ n w, Calls Tryd.prog 43 #[.int .i64 8, .int .i64 n] w fun e w' => e = .returned (.tuple #[.int .u32 (putF 8 n), .bool (fitB 8 n)]) ∧ Below w.heap.size w w') := Lib.hid fun n w => progPutF 8 (by omega) n w
  have HI : Hid (∀ n w, Calls Tryd.prog 43 #[.int .i64 0, .int .i64 n] w fun e w' => e = .returned (.tuple #[.int .u32 (putF 0 n), .bool (fitB 0 n)]) ∧ Below w.heap.size w w') := Lib.hid fun n w => progPutF 0 (by omega) n w
  go_enter Tryd.func25, Tryd.ntmps25
  go_wp2_with (first
    | (go_at_call 41; (with_reducible refine (H7.out _ _).mono ?_); rintro e w3 ⟨rfl, rfl⟩)
    | (go_at_call 41; (with_reducible refine (H15.out _ _).mono ?_); rintro e w3 ⟨rfl, rfl⟩))
  go_quiet ((go_at_call 42; exact Calls.quiet_of_same (mark_int _ _ (by omega) (by omega) _)))
  go_wp2_with (first
    | (go_at_call 43; (with_reducible refine (HI.out _ _).mono ?_); rintro e ww2 ⟨rfl, hb2⟩; have HB2 : Hid (Below w.heap.size w ww2) := Lib.hid ((belN (((Below.refl _ _).alloc (Nat.le_refl _) _).alloc (by rw [World.size_alloc]; omega) _) _).trans (hb2.mono (by show w.heap.size ≤ ((w.alloc _).alloc _).heap.size; rw [World.size_alloc, World.size_alloc]; omega))); clear hb2))
  go_ret
  exact ⟨rfl, HB2.out⟩

set_option maxHeartbeats 1000000 in
theorem write_9 (i : Ins) (w : World) :
    Calls Tryd.prog 25 #[.agg #[.int .u32 4160778367, .bool true, .bool true, .bool true, .int .i64 0, .bool false, .bool true], .agg #[.int .i64 i.op, .int .i64 i.rd, .int .i64 i.a, .int .i64 i.b, .int .i64 i.imm, .int .i64 i.csr, .bool i.aq, .bool i.rl]] w fun e w' => e = .returned (.int .u32 (bits .or .u32 (bits .or .u32 (bits .or .u32 (bits .or .u32 (bits .or .u32 0 (put5 i.rd 7)) (put5 i.a 15)) (put5 i.b 20)) (bits .or .u32 (markZ i.aq 26) (markZ i.rl 25))) (putF 0 i.imm))) ∧ Below w.heap.size w w' := by
  have H7 : Hid (∀ n w, Calls Tryd.prog 41 #[.int .i64 n, .int .i64 7] w fun e w' => e = .returned (.int .u32 (put5 n 7)) ∧ w = w') := Lib.hid fun n w => put_any n 7 (by omega) w
  have H15 : Hid (∀ n w, Calls Tryd.prog 41 #[.int .i64 n, .int .i64 15] w fun e w' => e = .returned (.int .u32 (put5 n 15)) ∧ w = w') := Lib.hid fun n w => put_any n 15 (by omega) w
  have H20 : Hid (∀ n w, Calls Tryd.prog 41 #[.int .i64 n, .int .i64 20] w fun e w' => e = .returned (.int .u32 (put5 n 20)) ∧ w = w') := Lib.hid fun n w => put_any n 20 (by omega) w
  have H8 : Hid (∀ n w, Calls Tryd.prog 43 #[.int .i64 8, .int .i64 n] w fun e w' => e = .returned (.tuple #[.int .u32 (putF 8 n), .bool (fitB 8 n)]) ∧ Below w.heap.size w w') := Lib.hid fun n w => progPutF 8 (by omega) n w
  have HI : Hid (∀ n w, Calls Tryd.prog 43 #[.int .i64 0, .int .i64 n] w fun e w' => e = .returned (.tuple #[.int .u32 (putF 0 n), .bool (fitB 0 n)]) ∧ Below w.heap.size w w') := Lib.hid fun n w => progPutF 0 (by omega) n w
  go_enter Tryd.func25, Tryd.ntmps25
  go_wp2_with (first
    | (go_at_call 41; (with_reducible refine (H7.out _ _).mono ?_); rintro e w3 ⟨rfl, rfl⟩)
    | (go_at_call 41; (with_reducible refine (H15.out _ _).mono ?_); rintro e w3 ⟨rfl, rfl⟩)
    | (go_at_call 41; (with_reducible refine (H20.out _ _).mono ?_); rintro e w3 ⟨rfl, rfl⟩))
  go_quiet ((go_at_call 42; exact Calls.quiet_of_same (mark_int _ _ (by omega) (by omega) _)))
  go_wp2_with (first
    | (go_at_call 43; (with_reducible refine (HI.out _ _).mono ?_); rintro e ww2 ⟨rfl, hb2⟩; have HB2 : Hid (Below w.heap.size w ww2) := Lib.hid ((belN (((Below.refl _ _).alloc (Nat.le_refl _) _).alloc (by rw [World.size_alloc]; omega) _) _).trans (hb2.mono (by show w.heap.size ≤ ((w.alloc _).alloc _).heap.size; rw [World.size_alloc, World.size_alloc]; omega))); clear hb2))
  go_ret
  exact ⟨rfl, HB2.out⟩

set_option maxHeartbeats 1000000 in
theorem write_10 (i : Ins) (w : World) :
    Calls Tryd.prog 25 #[.agg #[.int .u32 4294967295, .bool false, .bool false, .bool false, .int .i64 0, .bool false, .bool false], .agg #[.int .i64 i.op, .int .i64 i.rd, .int .i64 i.a, .int .i64 i.b, .int .i64 i.imm, .int .i64 i.csr, .bool i.aq, .bool i.rl]] w fun e w' => e = .returned (.int .u32 (bits .or .u32 (0) (putF 0 i.imm))) ∧ Below w.heap.size w w' := by
  have H7 : Hid (∀ n w, Calls Tryd.prog 41 #[.int .i64 n, .int .i64 7] w fun e w' => e = .returned (.int .u32 (put5 n 7)) ∧ w = w') := Lib.hid fun n w => put_any n 7 (by omega) w
  have H15 : Hid (∀ n w, Calls Tryd.prog 41 #[.int .i64 n, .int .i64 15] w fun e w' => e = .returned (.int .u32 (put5 n 15)) ∧ w = w') := Lib.hid fun n w => put_any n 15 (by omega) w
  have H20 : Hid (∀ n w, Calls Tryd.prog 41 #[.int .i64 n, .int .i64 20] w fun e w' => e = .returned (.int .u32 (put5 n 20)) ∧ w = w') := Lib.hid fun n w => put_any n 20 (by omega) w
  have H8 : Hid (∀ n w, Calls Tryd.prog 43 #[.int .i64 8, .int .i64 n] w fun e w' => e = .returned (.tuple #[.int .u32 (putF 8 n), .bool (fitB 8 n)]) ∧ Below w.heap.size w w') := Lib.hid fun n w => progPutF 8 (by omega) n w
  have HI : Hid (∀ n w, Calls Tryd.prog 43 #[.int .i64 0, .int .i64 n] w fun e w' => e = .returned (.tuple #[.int .u32 (putF 0 n), .bool (fitB 0 n)]) ∧ Below w.heap.size w w') := Lib.hid fun n w => progPutF 0 (by omega) n w
  go_enter Tryd.func25, Tryd.ntmps25
  go_wp2_with (first
    | (go_at_call 43; (with_reducible refine (HI.out _ _).mono ?_); rintro e ww2 ⟨rfl, hb2⟩; obtain ⟨HB2, hp, hq, hs⟩ := rows2 hb2; clear hb2 hp hq))
  go_ret
  exact ⟨rfl, HB2.out⟩

set_option maxHeartbeats 1000000 in
theorem write_11 (i : Ins) (w : World) :
    Calls Tryd.prog 25 #[.agg #[.int .u32 4261445631, .bool false, .bool true, .bool true, .int .i64 0, .bool false, .bool false], .agg #[.int .i64 i.op, .int .i64 i.rd, .int .i64 i.a, .int .i64 i.b, .int .i64 i.imm, .int .i64 i.csr, .bool i.aq, .bool i.rl]] w fun e w' => e = .returned (.int .u32 (bits .or .u32 (bits .or .u32 (bits .or .u32 (0) (put5 i.a 15)) (put5 i.b 20)) (putF 0 i.imm))) ∧ Below w.heap.size w w' := by
  have H7 : Hid (∀ n w, Calls Tryd.prog 41 #[.int .i64 n, .int .i64 7] w fun e w' => e = .returned (.int .u32 (put5 n 7)) ∧ w = w') := Lib.hid fun n w => put_any n 7 (by omega) w
  have H15 : Hid (∀ n w, Calls Tryd.prog 41 #[.int .i64 n, .int .i64 15] w fun e w' => e = .returned (.int .u32 (put5 n 15)) ∧ w = w') := Lib.hid fun n w => put_any n 15 (by omega) w
  have H20 : Hid (∀ n w, Calls Tryd.prog 41 #[.int .i64 n, .int .i64 20] w fun e w' => e = .returned (.int .u32 (put5 n 20)) ∧ w = w') := Lib.hid fun n w => put_any n 20 (by omega) w
  have H8 : Hid (∀ n w, Calls Tryd.prog 43 #[.int .i64 8, .int .i64 n] w fun e w' => e = .returned (.tuple #[.int .u32 (putF 8 n), .bool (fitB 8 n)]) ∧ Below w.heap.size w w') := Lib.hid fun n w => progPutF 8 (by omega) n w
  have HI : Hid (∀ n w, Calls Tryd.prog 43 #[.int .i64 0, .int .i64 n] w fun e w' => e = .returned (.tuple #[.int .u32 (putF 0 n), .bool (fitB 0 n)]) ∧ Below w.heap.size w w') := Lib.hid fun n w => progPutF 0 (by omega) n w
  go_enter Tryd.func25, Tryd.ntmps25
  go_wp2_with (first
    | (go_at_call 41; (with_reducible refine (H15.out _ _).mono ?_); rintro e w3 ⟨rfl, rfl⟩)
    | (go_at_call 41; (with_reducible refine (H20.out _ _).mono ?_); rintro e w3 ⟨rfl, rfl⟩)
    | (go_at_call 43; (with_reducible refine (HI.out _ _).mono ?_); rintro e ww2 ⟨rfl, hb2⟩; obtain ⟨HB2, hp, hq, hs⟩ := rows2 hb2; clear hb2 hp hq))
  go_ret
  exact ⟨rfl, HB2.out⟩

set_option maxHeartbeats 1000000 in
theorem write_12 (i : Ins) (w : World) :
    Calls Tryd.prog 25 #[.agg #[.int .u32 28799, .bool true, .bool true, .bool false, .int .i64 0, .bool true, .bool false], .agg #[.int .i64 i.op, .int .i64 i.rd, .int .i64 i.a, .int .i64 i.b, .int .i64 i.imm, .int .i64 i.csr, .bool i.aq, .bool i.rl]] w fun e w' => e = .returned (.int .u32 (bits .or .u32 (bits .or .u32 (bits .or .u32 (bits .or .u32 0 (put5 i.rd 7)) (put5 i.a 15)) (putF 8 i.csr)) (putF 0 i.imm))) ∧ Below w.heap.size w w' := by
  have H7 : Hid (∀ n w, Calls Tryd.prog 41 #[.int .i64 n, .int .i64 7] w fun e w' => e = .returned (.int .u32 (put5 n 7)) ∧ w = w') := Lib.hid fun n w => put_any n 7 (by omega) w
  have H15 : Hid (∀ n w, Calls Tryd.prog 41 #[.int .i64 n, .int .i64 15] w fun e w' => e = .returned (.int .u32 (put5 n 15)) ∧ w = w') := Lib.hid fun n w => put_any n 15 (by omega) w
  have H20 : Hid (∀ n w, Calls Tryd.prog 41 #[.int .i64 n, .int .i64 20] w fun e w' => e = .returned (.int .u32 (put5 n 20)) ∧ w = w') := Lib.hid fun n w => put_any n 20 (by omega) w
  have H8 : Hid (∀ n w, Calls Tryd.prog 43 #[.int .i64 8, .int .i64 n] w fun e w' => e = .returned (.tuple #[.int .u32 (putF 8 n), .bool (fitB 8 n)]) ∧ Below w.heap.size w w') := Lib.hid fun n w => progPutF 8 (by omega) n w
  have HI : Hid (∀ n w, Calls Tryd.prog 43 #[.int .i64 0, .int .i64 n] w fun e w' => e = .returned (.tuple #[.int .u32 (putF 0 n), .bool (fitB 0 n)]) ∧ Below w.heap.size w w') := Lib.hid fun n w => progPutF 0 (by omega) n w
  go_enter Tryd.func25, Tryd.ntmps25
  go_wp2_with (first
    | (go_at_call 41; (with_reducible refine (H7.out _ _).mono ?_); rintro e w3 ⟨rfl, rfl⟩)
    | (go_at_call 41; (with_reducible refine (H15.out _ _).mono ?_); rintro e w3 ⟨rfl, rfl⟩)
    | (go_at_call 43; (with_reducible refine (H8.out _ _).mono ?_); rintro e ww1 ⟨rfl, hb1⟩; obtain ⟨HB1, hp, hq, hs⟩ := rows2 hb1; have p4 : ww1.cell? ⟨w.heap.size, 4, none⟩ = some (.int .i64 0) := (by rw [hp]; rfl); have q4 : ww1.cell? ⟨w.heap.size + 1, 4, none⟩ = some (.int .i64 i.imm) := (by rw [hq]; rfl); clear hb1 hp hq)
    | (go_at_call 43; (with_reducible refine (HI.out _ _).mono ?_); rintro e ww2 ⟨rfl, hb2⟩; have HB2 : Hid (Below w.heap.size w ww2) := Lib.hid (HB1.out.trans (hb2.mono (by omega))); clear hb2))
  go_ret
  exact ⟨rfl, HB2.out⟩

set_option maxHeartbeats 1000000 in
theorem write_13 (i : Ins) (w : World) :
    Calls Tryd.prog 25 #[.agg #[.int .u32 28799, .bool true, .bool false, .bool false, .int .i64 9, .bool true, .bool false], .agg #[.int .i64 i.op, .int .i64 i.rd, .int .i64 i.a, .int .i64 i.b, .int .i64 i.imm, .int .i64 i.csr, .bool i.aq, .bool i.rl]] w fun e w' => e = .returned (.int .u32 (bits .or .u32 (bits .or .u32 (bits .or .u32 0 (put5 i.rd 7)) (putF 8 i.csr)) (putF 9 i.imm))) ∧ Below w.heap.size w w' := by
  have H7 : Hid (∀ n w, Calls Tryd.prog 41 #[.int .i64 n, .int .i64 7] w fun e w' => e = .returned (.int .u32 (put5 n 7)) ∧ w = w') := Lib.hid fun n w => put_any n 7 (by omega) w
  have H15 : Hid (∀ n w, Calls Tryd.prog 41 #[.int .i64 n, .int .i64 15] w fun e w' => e = .returned (.int .u32 (put5 n 15)) ∧ w = w') := Lib.hid fun n w => put_any n 15 (by omega) w
  have H20 : Hid (∀ n w, Calls Tryd.prog 41 #[.int .i64 n, .int .i64 20] w fun e w' => e = .returned (.int .u32 (put5 n 20)) ∧ w = w') := Lib.hid fun n w => put_any n 20 (by omega) w
  have H8 : Hid (∀ n w, Calls Tryd.prog 43 #[.int .i64 8, .int .i64 n] w fun e w' => e = .returned (.tuple #[.int .u32 (putF 8 n), .bool (fitB 8 n)]) ∧ Below w.heap.size w w') := Lib.hid fun n w => progPutF 8 (by omega) n w
  have HI : Hid (∀ n w, Calls Tryd.prog 43 #[.int .i64 9, .int .i64 n] w fun e w' => e = .returned (.tuple #[.int .u32 (putF 9 n), .bool (fitB 9 n)]) ∧ Below w.heap.size w w') := Lib.hid fun n w => progPutF 9 (by omega) n w
  go_enter Tryd.func25, Tryd.ntmps25
  go_wp2_with (first
    | (go_at_call 41; (with_reducible refine (H7.out _ _).mono ?_); rintro e w3 ⟨rfl, rfl⟩)
    | (go_at_call 43; (with_reducible refine (H8.out _ _).mono ?_); rintro e ww1 ⟨rfl, hb1⟩; obtain ⟨HB1, hp, hq, hs⟩ := rows2 hb1; have p4 : ww1.cell? ⟨w.heap.size, 4, none⟩ = some (.int .i64 9) := (by rw [hp]; rfl); have q4 : ww1.cell? ⟨w.heap.size + 1, 4, none⟩ = some (.int .i64 i.imm) := (by rw [hq]; rfl); clear hb1 hp hq)
    | (go_at_call 43; (with_reducible refine (HI.out _ _).mono ?_); rintro e ww2 ⟨rfl, hb2⟩; have HB2 : Hid (Below w.heap.size w ww2) := Lib.hid (HB1.out.trans (hb2.mono (by omega))); clear hb2))
  go_ret
  exact ⟨rfl, HB2.out⟩

set_option maxHeartbeats 1000000 in
theorem write_14 (i : Ins) (w : World) :
    Calls Tryd.prog 25 #[.agg #[.int .u32 4293947519, .bool true, .bool true, .bool false, .int .i64 0, .bool false, .bool false], .agg #[.int .i64 i.op, .int .i64 i.rd, .int .i64 i.a, .int .i64 i.b, .int .i64 i.imm, .int .i64 i.csr, .bool i.aq, .bool i.rl]] w fun e w' => e = .returned (.int .u32 (bits .or .u32 (bits .or .u32 (bits .or .u32 0 (put5 i.rd 7)) (put5 i.a 15)) (putF 0 i.imm))) ∧ Below w.heap.size w w' := by
  have H7 : Hid (∀ n w, Calls Tryd.prog 41 #[.int .i64 n, .int .i64 7] w fun e w' => e = .returned (.int .u32 (put5 n 7)) ∧ w = w') := Lib.hid fun n w => put_any n 7 (by omega) w
  have H15 : Hid (∀ n w, Calls Tryd.prog 41 #[.int .i64 n, .int .i64 15] w fun e w' => e = .returned (.int .u32 (put5 n 15)) ∧ w = w') := Lib.hid fun n w => put_any n 15 (by omega) w
  have H20 : Hid (∀ n w, Calls Tryd.prog 41 #[.int .i64 n, .int .i64 20] w fun e w' => e = .returned (.int .u32 (put5 n 20)) ∧ w = w') := Lib.hid fun n w => put_any n 20 (by omega) w
  have H8 : Hid (∀ n w, Calls Tryd.prog 43 #[.int .i64 8, .int .i64 n] w fun e w' => e = .returned (.tuple #[.int .u32 (putF 8 n), .bool (fitB 8 n)]) ∧ Below w.heap.size w w') := Lib.hid fun n w => progPutF 8 (by omega) n w
  have HI : Hid (∀ n w, Calls Tryd.prog 43 #[.int .i64 0, .int .i64 n] w fun e w' => e = .returned (.tuple #[.int .u32 (putF 0 n), .bool (fitB 0 n)]) ∧ Below w.heap.size w w') := Lib.hid fun n w => progPutF 0 (by omega) n w
  go_enter Tryd.func25, Tryd.ntmps25
  go_wp2_with (first
    | (go_at_call 41; (with_reducible refine (H7.out _ _).mono ?_); rintro e w3 ⟨rfl, rfl⟩)
    | (go_at_call 41; (with_reducible refine (H15.out _ _).mono ?_); rintro e w3 ⟨rfl, rfl⟩)
    | (go_at_call 43; (with_reducible refine (HI.out _ _).mono ?_); rintro e ww2 ⟨rfl, hb2⟩; obtain ⟨HB2, hp, hq, hs⟩ := rows2 hb2; clear hb2 hp hq))
  go_ret
  exact ⟨rfl, HB2.out⟩

end Go.Proofs.YtehlihhnkojjeaaDoor
