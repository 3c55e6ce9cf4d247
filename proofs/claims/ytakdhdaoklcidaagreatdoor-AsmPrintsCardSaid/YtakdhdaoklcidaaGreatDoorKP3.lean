/- Joined: DcD DsD DsE DsF DsG Dv LawDecodeNames AsG AsG2 AsH AsH2 TakeD AsI AsJ AsK AsLp ShD Arr OnB AsL -/
import Derived.Test.YtakdhdaoklcidaaGreatDoorKP2
import Derived.Laws.StructEq
import Derived.Deep.RegionHeld3
import Derived.Laws.EntriesVeiled
import Derived.Lib.OthersKept
import Derived.Deep.LoopGhost
import Derived.Lib.Hide
import Derived.Deep.DeepCutAuto
import Derived.Lib.TrailingZeros
import Derived.RowKit
import Derived.Test.YtakdhdaoklcidaaGreatDoorRows
import Derived.Shelf.Spec.TrailingZeros
import Derived.WalkKit
import Derived.ProofKit
import Derived.WalkSmall
import Derived.Laws.Rows
import Derived.Laws.Tables
import Derived.Maps.AppendAt
import Derived.Lib.ItoaMem
namespace Go.Proofs.YtakdhdaoklcidaaGreatDoor
open Go.RowKit
set_option linter.unusedVariables false
set_option maxRecDepth 100000

/-- Whether a form's number fits (0: there is no such form). -/
def fitB (k : Nat) (n : Int) : Bool := decide (1 ≤ k) && ((formL k).number ((formL k).word n) == n)
theorem progPutF (k : Nat) (hk : k ≤ 9) (n : Int) (w : World) :
    Calls Tryz.prog 87 #[.int .i64 k, .int .i64 n] w fun e w' => e = .returned (.tuple #[.int .u32 (putF k n), .bool (fitB k n)]) ∧ Below w.heap.size w w' := by
  by_cases h0 : k = 0
  · subst h0
    have e : putF 0 n = 0 := by unfold putF; rw [word0]; split <;> rfl
    have e2 : fitB 0 n = false := rfl
    rw [e, e2]
    exact progPut_no 0 (by omega) n w
  · cases hq : ((formL k).number ((formL k).word n) == n)
    · have e : putF k n = 0 := by unfold putF; rw [hq]; rfl
      have e2 : fitB k n = false := by unfold fitB; rw [hq]; simp
      rw [e, e2]
      exact progPut_not k (by omega) n hq w
    · have e : putF k n = (formL k).word n := by unfold putF; rw [hq]; rfl
      have e2 : fitB k n = true := by unfold fitB; rw [hq]; simp; omega
      rw [e, e2]
      exact progPut_yes k (by omega) n hq w
theorem mark_int (b : Bool) (s : Int) (h0 : 0 ≤ s) (h1 : s ≤ 31) (w : World) :
    Calls Tryz.prog 86 #[.bool b, .int .i64 s] w fun e w' => e = .returned (.int .u32 (markZ b s.toNat)) ∧ w' = w := by
  obtain ⟨n, rfl⟩ := Int.eq_ofNat_of_zero_le h0
  exact (mark_any b n (by omega) w).mono fun e w' h => ⟨h.1, h.2.symm⟩
/-- What stands behind a call that is made with two new blocks. -/
theorem rows2 {w w2 : World} {A B : Array Value} {a b : TypeId} (h : Below ((w.alloc (.cells A a)).alloc (.cells B b)).heap.size ((w.alloc (.cells A a)).alloc (.cells B b)) w2) :
    Hid (Below w.heap.size w w2) ∧ (∀ j, w2.cell? ⟨w.heap.size, j, none⟩ = A[j]?) ∧ (∀ j, w2.cell? ⟨w.heap.size + 1, j, none⟩ = B[j]?) ∧ w.heap.size + 1 < w2.heap.size := by
  have s1 : (w.alloc (.cells A a)).heap.size = w.heap.size + 1 := World.size_alloc _ _
  have s2 : ((w.alloc (.cells A a)).alloc (.cells B b)).heap.size = w.heap.size + 1 + 1 := by rw [World.size_alloc, s1]
  have e0 : ((w.alloc (.cells A a)).alloc (.cells B b)).heap[w.heap.size]? = some (.cells A a (0, 0)) := by
    rw [Below.heap_alloc _ _ _ (by omega)]; exact heap_alloc_new w _
  have e1 : ((w.alloc (.cells A a)).alloc (.cells B b)).heap[w.heap.size + 1]? = some (.cells B b (0, 0)) := by
    rw [← s1]; exact heap_alloc_new _ _
  exact ⟨Lib.hid ((((Below.refl _ _).alloc (Nat.le_refl _) _).alloc (by omega) _).trans (h.mono (by omega))), fun j => cell_of_row _ _ _ _ _ _ ((h.block _ (by omega)).trans e0), fun j => cell_of_row _ _ _ _ _ _ ((h.block _ (by omega)).trans e1), by have := h.size; omega⟩

set_option maxHeartbeats 1000000 in
theorem write_0 (i : Ins) (w : World) :
    Calls Tryz.prog 54 #[.agg #[.int .u32 127, .bool true, .bool false, .bool false, .int .i64 4, .bool false, .bool false], .agg #[.int .i64 i.op, .int .i64 i.rd, .int .i64 i.a, .int .i64 i.b, .int .i64 i.imm, .int .i64 i.csr, .bool i.aq, .bool i.rl]] w fun e w' => e = .returned (.int .u32 (bits .or .u32 (bits .or .u32 0 (put5 i.rd 7)) (putF 4 i.imm))) ∧ Below w.heap.size w w' := by
  have H7 : Hid (∀ n w, Calls Tryz.prog 85 #[.int .i64 n, .int .i64 7] w fun e w' => e = .returned (.int .u32 (put5 n 7)) ∧ w = w') := Lib.hid fun n w => put_any n 7 (by omega) w
  have H15 : Hid (∀ n w, Calls Tryz.prog 85 #[.int .i64 n, .int .i64 15] w fun e w' => e = .returned (.int .u32 (put5 n 15)) ∧ w = w') := Lib.hid fun n w => put_any n 15 (by omega) w
  have H20 : Hid (∀ n w, Calls Tryz.prog 85 #[.int .i64 n, .int .i64 20] w fun e w' => e = .returned (.int .u32 (put5 n 20)) ∧ w = w') := Lib.hid fun n w => put_any n 20 (by omega) w
  have H8 : Hid (∀ n w, Calls Tryz.prog 87 #[.int .i64 8, .int .i64 n] w fun e w' => e = .returned (.tuple #[.int .u32 (putF 8 n), .bool (fitB 8 n)]) ∧ Below w.heap.size w w') := Lib.hid fun n w => progPutF 8 (by omega) n w
  have HI : Hid (∀ n w, Calls Tryz.prog 87 #[.int .i64 4, .int .i64 n] w fun e w' => e = .returned (.tuple #[.int .u32 (putF 4 n), .bool (fitB 4 n)]) ∧ Below w.heap.size w w') := Lib.hid fun n w => progPutF 4 (by omega) n w
  go_enter Tryz.func54, Tryz.ntmps54
  go_wp2_with (first
    | (go_at_call 85; (with_reducible refine (H7.out _ _).mono ?_); rintro e w3 ⟨rfl, rfl⟩)
    | (go_at_call 87; (with_reducible refine (HI.out _ _).mono ?_); rintro e ww2 ⟨rfl, hb2⟩; obtain ⟨HB2, hp, hq, hs⟩ := rows2 hb2; clear hb2 hp hq))
  go_ret
  exact ⟨rfl, HB2.out⟩

set_option maxHeartbeats 1000000 in
theorem write_1 (i : Ins) (w : World) :
    Calls Tryz.prog 54 #[.agg #[.int .u32 127, .bool true, .bool false, .bool false, .int .i64 5, .bool false, .bool false], .agg #[.int .i64 i.op, .int .i64 i.rd, .int .i64 i.a, .int .i64 i.b, .int .i64 i.imm, .int .i64 i.csr, .bool i.aq, .bool i.rl]] w fun e w' => e = .returned (.int .u32 (bits .or .u32 (bits .or .u32 0 (put5 i.rd 7)) (putF 5 i.imm))) ∧ Below w.heap.size w w' := by
  have H7 : Hid (∀ n w, Calls Tryz.prog 85 #[.int .i64 n, .int .i64 7] w fun e w' => e = .returned (.int .u32 (put5 n 7)) ∧ w = w') := Lib.hid fun n w => put_any n 7 (by omega) w
  have H15 : Hid (∀ n w, Calls Tryz.prog 85 #[.int .i64 n, .int .i64 15] w fun e w' => e = .returned (.int .u32 (put5 n 15)) ∧ w = w') := Lib.hid fun n w => put_any n 15 (by omega) w
  have H20 : Hid (∀ n w, Calls Tryz.prog 85 #[.int .i64 n, .int .i64 20] w fun e w' => e = .returned (.int .u32 (put5 n 20)) ∧ w = w') := Lib.hid fun n w => put_any n 20 (by omega) w
  have H8 : Hid (∀ n w, Calls Tryz.prog 87 #[.int .i64 8, .int .i64 n] w fun e w' => e = .returned (.tuple #[.int .u32 (putF 8 n), .bool (fitB 8 n)]) ∧ Below w.heap.size w w') := Lib.hid fun n w => progPutF 8 (by omega) n w
  have HI : Hid (∀ n w, Calls Tryz.prog 87 #[.int .i64 5, .int .i64 n] w fun e w' => e = .returned (.tuple #[.int .u32 (putF 5 n), .bool (fitB 5 n)]) ∧ Below w.heap.size w w') := Lib.hid fun n w => progPutF 5 (by omega) n w
  go_enter Tryz.func54, Tryz.ntmps54
  go_wp2_with (first
    | (go_at_call 85; (with_reducible refine (H7.out _ _).mono ?_); rintro e w3 ⟨rfl, rfl⟩)
    | (go_at_call 87; (with_reducible refine (HI.out _ _).mono ?_); rintro e ww2 ⟨rfl, hb2⟩; obtain ⟨HB2, hp, hq, hs⟩ := rows2 hb2; clear hb2 hp hq))
  go_ret
  exact ⟨rfl, HB2.out⟩

set_option maxHeartbeats 1000000 in
theorem write_2 (i : Ins) (w : World) :
    Calls Tryz.prog 54 #[.agg #[.int .u32 28799, .bool true, .bool true, .bool false, .int .i64 1, .bool false, .bool false], .agg #[.int .i64 i.op, .int .i64 i.rd, .int .i64 i.a, .int .i64 i.b, .int .i64 i.imm, .int .i64 i.csr, .bool i.aq, .bool i.rl]] w fun e w' => e = .returned (.int .u32 (bits .or .u32 (bits .or .u32 (bits .or .u32 0 (put5 i.rd 7)) (put5 i.a 15)) (putF 1 i.imm))) ∧ Below w.heap.size w w' := by
  have H7 : Hid (∀ n w, Calls Tryz.prog 85 #[.int .i64 n, .int .i64 7] w fun e w' => e = .returned (.int .u32 (put5 n 7)) ∧ w = w') := Lib.hid fun n w => put_any n 7 (by omega) w
  have H15 : Hid (∀ n w, Calls Tryz.prog 85 #[.int .i64 n, .int .i64 15] w fun e w' => e = .returned (.int .u32 (put5 n 15)) ∧ w = w') := Lib.hid fun n w => put_any n 15 (by omega) w
  have H20 : Hid (∀ n w, Calls Tryz.prog 85 #[.int .i64 n, .int .i64 20] w fun e w' => e = .returned (.int .u32 (put5 n 20)) ∧ w = w') := Lib.hid fun n w => put_any n 20 (by omega) w
  have H8 : Hid (∀ n w, Calls Tryz.prog 87 #[.int .i64 8, .int .i64 n] w fun e w' => e = .returned (.tuple #[.int .u32 (putF 8 n), .bool (fitB 8 n)]) ∧ Below w.heap.size w w') := Lib.hid fun n w => progPutF 8 (by omega) n w
  have HI : Hid (∀ n w, Calls Tryz.prog 87 #[.int .i64 1, .int .i64 n] w fun e w' => e = .returned (.tuple #[.int .u32 (putF 1 n), .bool (fitB 1 n)]) ∧ Below w.heap.size w w') := Lib.hid fun n w => progPutF 1 (by omega) n w
  go_enter Tryz.func54, Tryz.ntmps54
  go_wp2_with (first
    | (go_at_call 85; (with_reducible refine (H7.out _ _).mono ?_); rintro e w3 ⟨rfl, rfl⟩)
    | (go_at_call 85; (with_reducible refine (H15.out _ _).mono ?_); rintro e w3 ⟨rfl, rfl⟩)
    | (go_at_call 87; (with_reducible refine (HI.out _ _).mono ?_); rintro e ww2 ⟨rfl, hb2⟩; obtain ⟨HB2, hp, hq, hs⟩ := rows2 hb2; clear hb2 hp hq))
  go_ret
  exact ⟨rfl, HB2.out⟩

set_option maxHeartbeats 1000000 in
theorem write_3 (i : Ins) (w : World) :
    Calls Tryz.prog 54 #[.agg #[.int .u32 28799, .bool false, .bool true, .bool true, .int .i64 3, .bool false, .bool false], .agg #[.int .i64 i.op, .int .i64 i.rd, .int .i64 i.a, .int .i64 i.b, .int .i64 i.imm, .int .i64 i.csr, .bool i.aq, .bool i.rl]] w fun e w' => e = .returned (.int .u32 (bits .or .u32 (bits .or .u32 (bits .or .u32 (0) (put5 i.a 15)) (put5 i.b 20)) (putF 3 i.imm))) ∧ Below w.heap.size w w' := by
  have H7 : Hid (∀ n w, Calls Tryz.prog 85 #[.int .i64 n, .int .i64 7] w fun e w' => e = .returned (.int .u32 (put5 n 7)) ∧ w = w') := Lib.hid fun n w => put_any n 7 (by omega) w
  have H15 : Hid (∀ n w, Calls Tryz.prog 85 #[.int .i64 n, .int .i64 15] w fun e w' => e = .returned (.int .u32 (put5 n 15)) ∧ w = w') := Lib.hid fun n w => put_any n 15 (by omega) w
  have H20 : Hid (∀ n w, Calls Tryz.prog 85 #[.int .i64 n, .int .i64 20] w fun e w' => e = .returned (.int .u32 (put5 n 20)) ∧ w = w') := Lib.hid fun n w => put_any n 20 (by omega) w
  have H8 : Hid (∀ n w, Calls Tryz.prog 87 #[.int .i64 8, .int .i64 n] w fun e w' => e = .returned (.tuple #[.int .u32 (putF 8 n), .bool (fitB 8 n)]) ∧ Below w.heap.size w w') := Lib.hid fun n w => progPutF 8 (by omega) n w
  have HI : Hid (∀ n w, Calls Tryz.prog 87 #[.int .i64 3, .int .i64 n] w fun e w' => e = .returned (.tuple #[.int .u32 (putF 3 n), .bool (fitB 3 n)]) ∧ Below w.heap.size w w') := Lib.hid fun n w => progPutF 3 (by omega) n w
  go_enter Tryz.func54, Tryz.ntmps54
  go_wp2_with (first
    | (go_at_call 85; (with_reducible refine (H15.out _ _).mono ?_); rintro e w3 ⟨rfl, rfl⟩)
    | (go_at_call 85; (with_reducible refine (H20.out _ _).mono ?_); rintro e w3 ⟨rfl, rfl⟩)
    | (go_at_call 87; (with_reducible refine (HI.out _ _).mono ?_); rintro e ww2 ⟨rfl, hb2⟩; obtain ⟨HB2, hp, hq, hs⟩ := rows2 hb2; clear hb2 hp hq))
  go_ret
  exact ⟨rfl, HB2.out⟩

set_option maxHeartbeats 1000000 in
theorem write_4 (i : Ins) (w : World) :
    Calls Tryz.prog 54 #[.agg #[.int .u32 28799, .bool false, .bool true, .bool true, .int .i64 2, .bool false, .bool false], .agg #[.int .i64 i.op, .int .i64 i.rd, .int .i64 i.a, .int .i64 i.b, .int .i64 i.imm, .int .i64 i.csr, .bool i.aq, .bool i.rl]] w fun e w' => e = .returned (.int .u32 (bits .or .u32 (bits .or .u32 (bits .or .u32 (0) (put5 i.a 15)) (put5 i.b 20)) (putF 2 i.imm))) ∧ Below w.heap.size w w' := by
  have H7 : Hid (∀ n w, Calls Tryz.prog 85 #[.int .i64 n, .int .i64 7] w fun e w' => e = .returned (.int .u32 (put5 n 7)) ∧ w = w') := Lib.hid fun n w => put_any n 7 (by omega) w
  have H15 : Hid (∀ n w, Calls Tryz.prog 85 #[.int .i64 n, .int .i64 15] w fun e w' => e = .returned (.int .u32 (put5 n 15)) ∧ w = w') := Lib.hid fun n w => put_any n 15 (by omega) w
  have H20 : Hid (∀ n w, Calls Tryz.prog 85 #[.int .i64 n, .int .i64 20] w fun e w' => e = .returned (.int .u32 (put5 n 20)) ∧ w = w') := Lib.hid fun n w => put_any n 20 (by omega) w
  have H8 : Hid (∀ n w, Calls Tryz.prog 87 #[.int .i64 8, .int .i64 n] w fun e w' => e = .returned (.tuple #[.int .u32 (putF 8 n), .bool (fitB 8 n)]) ∧ Below w.heap.size w w') := Lib.hid fun n w => progPutF 8 (by omega) n w
  have HI : Hid (∀ n w, Calls Tryz.prog 87 #[.int .i64 2, .int .i64 n] w fun e w' => e = .returned (.tuple #[.int .u32 (putF 2 n), .bool (fitB 2 n)]) ∧ Below w.heap.size w w') := Lib.hid fun n w => progPutF 2 (by omega) n w
  go_enter Tryz.func54, Tryz.ntmps54
  go_wp2_with (first
    | (go_at_call 85; (with_reducible refine (H15.out _ _).mono ?_); rintro e w3 ⟨rfl, rfl⟩)
    | (go_at_call 85; (with_reducible refine (H20.out _ _).mono ?_); rintro e w3 ⟨rfl, rfl⟩)
    | (go_at_call 87; (with_reducible refine (HI.out _ _).mono ?_); rintro e ww2 ⟨rfl, hb2⟩; obtain ⟨HB2, hp, hq, hs⟩ := rows2 hb2; clear hb2 hp hq))
  go_ret
  exact ⟨rfl, HB2.out⟩

set_option maxHeartbeats 1000000 in
theorem write_5 (i : Ins) (w : World) :
    Calls Tryz.prog 54 #[.agg #[.int .u32 4227887231, .bool true, .bool true, .bool false, .int .i64 6, .bool false, .bool false], .agg #[.int .i64 i.op, .int .i64 i.rd, .int .i64 i.a, .int .i64 i.b, .int .i64 i.imm, .int .i64 i.csr, .bool i.aq, .bool i.rl]] w fun e w' => e = .returned (.int .u32 (bits .or .u32 (bits .or .u32 (bits .or .u32 0 (put5 i.rd 7)) (put5 i.a 15)) (putF 6 i.imm))) ∧ Below w.heap.size w w' := by
  have H7 : Hid (∀ n w, Calls Tryz.prog 85 #[.int .i64 n, .int .i64 7] w fun e w' => e = .returned (.int .u32 (put5 n 7)) ∧ w = w') := Lib.hid fun n w => put_any n 7 (by omega) w
  have H15 : Hid (∀ n w, Calls Tryz.prog 85 #[.int .i64 n, .int .i64 15] w fun e w' => e = .returned (.int .u32 (put5 n 15)) ∧ w = w') := Lib.hid fun n w => put_any n 15 (by omega) w
  have H20 : Hid (∀ n w, Calls Tryz.prog 85 #[.int .i64 n, .int .i64 20] w fun e w' => e = .returned (.int .u32 (put5 n 20)) ∧ w = w') := Lib.hid fun n w => put_any n 20 (by omega) w
  have H8 : Hid (∀ n w, Calls Tryz.prog 87 #[.int .i64 8, .int .i64 n] w fun e w' => e = .returned (.tuple #[.int .u32 (putF 8 n), .bool (fitB 8 n)]) ∧ Below w.heap.size w w') := Lib.hid fun n w => progPutF 8 (by omega) n w
  have HI : Hid (∀ n w, Calls Tryz.prog 87 #[.int .i64 6, .int .i64 n] w fun e w' => e = .returned (.tuple #[.int .u32 (putF 6 n), .bool (fitB 6 n)]) ∧ Below w.heap.size w w') := Lib.hid fun n w => progPutF 6 (by omega) n w
  go_enter Tryz.func54, Tryz.ntmps54
  go_wp2_with (first
    | (go_at_call 85; (with_reducible refine (H7.out _ _).mono ?_); rintro e w3 ⟨rfl, rfl⟩)
    | (go_at_call 85; (with_reducible refine (H15.out _ _).mono ?_); rintro e w3 ⟨rfl, rfl⟩)
    | (go_at_call 87; (with_reducible refine (HI.out _ _).mono ?_); rintro e ww2 ⟨rfl, hb2⟩; obtain ⟨HB2, hp, hq, hs⟩ := rows2 hb2; clear hb2 hp hq))
  go_ret
  exact ⟨rfl, HB2.out⟩

set_option maxHeartbeats 1000000 in
theorem write_6 (i : Ins) (w : World) :
    Calls Tryz.prog 54 #[.agg #[.int .u32 4261441663, .bool true, .bool true, .bool false, .int .i64 7, .bool false, .bool false], .agg #[.int .i64 i.op, .int .i64 i.rd, .int .i64 i.a, .int .i64 i.b, .int .i64 i.imm, .int .i64 i.csr, .bool i.aq, .bool i.rl]] w fun e w' => e = .returned (.int .u32 (bits .or .u32 (bits .or .u32 (bits .or .u32 0 (put5 i.rd 7)) (put5 i.a 15)) (putF 7 i.imm))) ∧ Below w.heap.size w w' := by
  have H7 : Hid (∀ n w, Calls Tryz.prog 85 #[.int .i64 n, .int .i64 7] w fun e w' => e = .returned (.int .u32 (put5 n 7)) ∧ w = w') := Lib.hid fun n w => put_any n 7 (by omega) w
  have H15 : Hid (∀ n w, Calls Tryz.prog 85 #[.int .i64 n, .int .i64 15] w fun e w' => e = .returned (.int .u32 (put5 n 15)) ∧ w = w') := Lib.hid fun n w => put_any n 15 (by omega) w
  have H20 : Hid (∀ n w, Calls Tryz.prog 85 #[.int .i64 n, .int .i64 20] w fun e w' => e = .returned (.int .u32 (put5 n 20)) ∧ w = w') := Lib.hid fun n w => put_any n 20 (by omega) w
  have H8 : Hid (∀ n w, Calls Tryz.prog 87 #[.int .i64 8, .int .i64 n] w fun e w' => e = .returned (.tuple #[.int .u32 (putF 8 n), .bool (fitB 8 n)]) ∧ Below w.heap.size w w') := Lib.hid fun n w => progPutF 8 (by omega) n w
  have HI : Hid (∀ n w, Calls Tryz.prog 87 #[.int .i64 7, .int .i64 n] w fun e w' => e = .returned (.tuple #[.int .u32 (putF 7 n), .bool (fitB 7 n)]) ∧ Below w.heap.size w w') := Lib.hid fun n w => progPutF 7 (by omega) n w
  go_enter Tryz.func54, Tryz.ntmps54
  go_wp2_with (first
    | (go_at_call 85; (with_reducible refine (H7.out _ _).mono ?_); rintro e w3 ⟨rfl, rfl⟩)
    | (go_at_call 85; (with_reducible refine (H15.out _ _).mono ?_); rintro e w3 ⟨rfl, rfl⟩)
    | (go_at_call 87; (with_reducible refine (HI.out _ _).mono ?_); rintro e ww2 ⟨rfl, hb2⟩; obtain ⟨HB2, hp, hq, hs⟩ := rows2 hb2; clear hb2 hp hq))
  go_ret
  exact ⟨rfl, HB2.out⟩

set_option maxHeartbeats 1000000 in
theorem write_7 (i : Ins) (w : World) :
    Calls Tryz.prog 54 #[.agg #[.int .u32 4261441663, .bool true, .bool true, .bool true, .int .i64 0, .bool false, .bool false], .agg #[.int .i64 i.op, .int .i64 i.rd, .int .i64 i.a, .int .i64 i.b, .int .i64 i.imm, .int .i64 i.csr, .bool i.aq, .bool i.rl]] w fun e w' => e = .returned (.int .u32 (bits .or .u32 (bits .or .u32 (bits .or .u32 (bits .or .u32 0 (put5 i.rd 7)) (put5 i.a 15)) (put5 i.b 20)) (putF 0 i.imm))) ∧ Below w.heap.size w w' := by
  have H7 : Hid (∀ n w, Calls Tryz.prog 85 #[.int .i64 n, .int .i64 7] w fun e w' => e = .returned (.int .u32 (put5 n 7)) ∧ w = w') := Lib.hid fun n w => put_any n 7 (by omega) w
  have H15 : Hid (∀ n w, Calls Tryz.prog 85 #[.int .i64 n, .int .i64 15] w fun e w' => e = .returned (.int .u32 (put5 n 15)) ∧ w = w') := Lib.hid fun n w => put_any n 15 (by omega) w
  have H20 : Hid (∀ n w, Calls Tryz.prog 85 #[.int .i64 n, .int .i64 20] w fun e w' => e = .returned (.int .u32 (put5 n 20)) ∧ w = w') := Lib.hid fun n w => put_any n 20 (by omega) w
  have H8 : Hid (∀ n w, Calls Tryz.prog 87 #[.int .i64 8, .int .i64 n] w fun e w' => e = .returned (.tuple #[.int .u32 (putF 8 n), .bool (fitB 8 n)]) ∧ Below w.heap.size w w') := Lib.hid fun n w => progPutF 8 (by omega) n w
  have HI : Hid (∀ n w, Calls Tryz.prog 87 #[.int .i64 0, .int .i64 n] w fun e w' => e = .returned (.tuple #[.int .u32 (putF 0 n), .bool (fitB 0 n)]) ∧ Below w.heap.size w w') := Lib.hid fun n w => progPutF 0 (by omega) n w
  go_enter Tryz.func54, Tryz.ntmps54
  go_wp2_with (first
    | (go_at_call 85; (with_reducible refine (H7.out _ _).mono ?_); rintro e w3 ⟨rfl, rfl⟩)
    | (go_at_call 85; (with_reducible refine (H15.out _ _).mono ?_); rintro e w3 ⟨rfl, rfl⟩)
    | (go_at_call 85; (with_reducible refine (H20.out _ _).mono ?_); rintro e w3 ⟨rfl, rfl⟩)
    | (go_at_call 87; (with_reducible refine (HI.out _ _).mono ?_); rintro e ww2 ⟨rfl, hb2⟩; obtain ⟨HB2, hp, hq, hs⟩ := rows2 hb2; clear hb2 hp hq))
  go_ret
  exact ⟨rfl, HB2.out⟩

set_option maxHeartbeats 1000000 in
theorem write_8 (i : Ins) (w : World) :
    Calls Tryz.prog 54 #[.agg #[.int .u32 4193284223, .bool true, .bool true, .bool false, .int .i64 0, .bool false, .bool true], .agg #[.int .i64 i.op, .int .i64 i.rd, .int .i64 i.a, .int .i64 i.b, .int .i64 i.imm, .int .i64 i.csr, .bool i.aq, .bool i.rl]] w fun e w' => e = .returned (.int .u32 (bits .or .u32 (bits .or .u32 (bits .or .u32 (bits .or .u32 0 (put5 i.rd 7)) (put5 i.a 15)) (bits .or .u32 (markZ i.aq 26) (markZ i.rl 25))) (putF 0 i.imm))) ∧ Below w.heap.size w w' := by
  have H7 : Hid (∀ n w, Calls Tryz.prog 85 #[.int .i64 n, .int .i64 7] w fun e w' => e = .returned (.int .u32 (put5 n 7)) ∧ w = w') := Lib.hid fun n w => put_any n 7 (by omega) w
  have H15 : Hid (∀ n w, Calls Tryz.prog 85 #[.int .i64 n, .int .i64 15] w fun e w' => e = .returned (.int .u32 (put5 n 15)) ∧ w = w') := Lib.hid fun n w => put_any n 15 (by omega) w
  have H20 : Hid (∀ n w, Calls Tryz.prog 85 #[.int .i64 n, .int .i64 20] w fun e w' => e = .returned (.int .u32 (put5 n 20)) ∧ w = w') := Lib.hid fun n w => put_any n 20 (by omega) w
  have H8 : Hid (∀ n w, Calls Tryz.prog 87 #[.int .i64 8, .int .i64 n] w fun e w' => e = .returned (.tuple #[.int .u32 (putF 8 n), .bool (fitB 8 n)]) ∧ Below w.heap.size w w') := Lib.hid fun n w => progPutF 8 (by omega) n w
  have HI : Hid (∀ n w, Calls Tryz.prog 87 #[.int .i64 0, .int .i64 n] w fun e w' => e = .returned (.tuple #[.int .u32 (putF 0 n), .bool (fitB 0 n)]) ∧ Below w.heap.size w w') := Lib.hid fun n w => progPutF 0 (by omega) n w
  go_enter Tryz.func54, Tryz.ntmps54
  go_wp2_with (first
    | (go_at_call 85; (with_reducible refine (H7.out _ _).mono ?_); rintro e w3 ⟨rfl, rfl⟩)
    | (go_at_call 85; (with_reducible refine (H15.out _ _).mono ?_); rintro e w3 ⟨rfl, rfl⟩))
  go_quiet ((go_at_call 86; exact Calls.quiet_of_same (mark_int _ _ (by omega) (by omega) _)))
  go_wp2_with (first
    | (go_at_call 87; (with_reducible refine (HI.out _ _).mono ?_); rintro e ww2 ⟨rfl, hb2⟩; have HB2 : Hid (Below w.heap.size w ww2) := Lib.hid ((belN (((Below.refl _ _).alloc (Nat.le_refl _) _).alloc (by rw [World.size_alloc]; omega) _) _).trans (hb2.mono (by show w.heap.size ≤ ((w.alloc _).alloc _).heap.size; rw [World.size_alloc, World.size_alloc]; omega))); clear hb2))
  go_ret
  exact ⟨rfl, HB2.out⟩

set_option maxHeartbeats 1000000 in
theorem write_9 (i : Ins) (w : World) :
    Calls Tryz.prog 54 #[.agg #[.int .u32 4160778367, .bool true, .bool true, .bool true, .int .i64 0, .bool false, .bool true], .agg #[.int .i64 i.op, .int .i64 i.rd, .int .i64 i.a, .int .i64 i.b, .int .i64 i.imm, .int .i64 i.csr, .bool i.aq, .bool i.rl]] w fun e w' => e = .returned (.int .u32 (bits .or .u32 (bits .or .u32 (bits .or .u32 (bits .or .u32 (bits .or .u32 0 (put5 i.rd 7)) (put5 i.a 15)) (put5 i.b 20)) (bits .or .u32 (markZ i.aq 26) (markZ i.rl 25))) (putF 0 i.imm))) ∧ Below w.heap.size w w' := by
  have H7 : Hid (∀ n w, Calls Tryz.prog 85 #[.int .i64 n, .int .i64 7] w fun e w' => e = .returned (.int .u32 (put5 n 7)) ∧ w = w') := Lib.hid fun n w => put_any n 7 (by omega) w
  have H15 : Hid (∀ n w, Calls Tryz.prog 85 #[.int .i64 n, .int .i64 15] w fun e w' => e = .returned (.int .u32 (put5 n 15)) ∧ w = w') := Lib.hid fun n w => put_any n 15 (by omega) w
  have H20 : Hid (∀ n w, Calls Tryz.prog 85 #[.int .i64 n, .int .i64 20] w fun e w' => e = .returned (.int .u32 (put5 n 20)) ∧ w = w') := Lib.hid fun n w => put_any n 20 (by omega) w
  have H8 : Hid (∀ n w, Calls Tryz.prog 87 #[.int .i64 8, .int .i64 n] w fun e w' => e = .returned (.tuple #[.int .u32 (putF 8 n), .bool (fitB 8 n)]) ∧ Below w.heap.size w w') := Lib.hid fun n w => progPutF 8 (by omega) n w
  have HI : Hid (∀ n w, Calls Tryz.prog 87 #[.int .i64 0, .int .i64 n] w fun e w' => e = .returned (.tuple #[.int .u32 (putF 0 n), .bool (fitB 0 n)]) ∧ Below w.heap.size w w') := Lib.hid fun n w => progPutF 0 (by omega) n w
  go_enter Tryz.func54, Tryz.ntmps54
  go_wp2_with (first
    | (go_at_call 85; (with_reducible refine (H7.out _ _).mono ?_); rintro e w3 ⟨rfl, rfl⟩)
    | (go_at_call 85; (with_reducible refine (H15.out _ _).mono ?_); rintro e w3 ⟨rfl, rfl⟩)
    | (go_at_call 85; (with_reducible refine (H20.out _ _).mono ?_); rintro e w3 ⟨rfl, rfl⟩))
  go_quiet ((go_at_call 86; exact Calls.quiet_of_same (mark_int _ _ (by omega) (by omega) _)))
  go_wp2_with (first
    | (go_at_call 87; (with_reducible refine (HI.out _ _).mono ?_); rintro e ww2 ⟨rfl, hb2⟩; have HB2 : Hid (Below w.heap.size w ww2) := Lib.hid ((belN (((Below.refl _ _).alloc (Nat.le_refl _) _).alloc (by rw [World.size_alloc]; omega) _) _).trans (hb2.mono (by show w.heap.size ≤ ((w.alloc _).alloc _).heap.size; rw [World.size_alloc, World.size_alloc]; omega))); clear hb2))
  go_ret
  exact ⟨rfl, HB2.out⟩

set_option maxHeartbeats 1000000 in
theorem write_10 (i : Ins) (w : World) :
    Calls Tryz.prog 54 #[.agg #[.int .u32 4294967295, .bool false, .bool false, .bool false, .int .i64 0, .bool false, .bool false], .agg #[.int .i64 i.op, .int .i64 i.rd, .int .i64 i.a, .int .i64 i.b, .int .i64 i.imm, .int .i64 i.csr, .bool i.aq, .bool i.rl]] w fun e w' => e = .returned (.int .u32 (bits .or .u32 (0) (putF 0 i.imm))) ∧ Below w.heap.size w w' := by
  have H7 : Hid (∀ n w, Calls Tryz.prog 85 #[.int .i64 n, .int .i64 7] w fun e w' => e = .returned (.int .u32 (put5 n 7)) ∧ w = w') := Lib.hid fun n w => put_any n 7 (by omega) w
  have H15 : Hid (∀ n w, Calls Tryz.prog 85 #[.int .i64 n, .int .i64 15] w fun e w' => e = .returned (.int .u32 (put5 n 15)) ∧ w = w') := Lib.hid fun n w => put_any n 15 (by omega) w
  have H20 : Hid (∀ n w, Calls Tryz.prog 85 #[.int .i64 n, .int .i64 20] w fun e w' => e = .returned (.int .u32 (put5 n 20)) ∧ w = w') := Lib.hid fun n w => put_any n 20 (by omega) w
  have H8 : Hid (∀ n w, Calls Tryz.prog 87 #[.int .i64 8, .int .i64 n] w fun e w' => e = .returned (.tuple #[.int .u32 (putF 8 n), .bool (fitB 8 n)]) ∧ Below w.heap.size w w') := Lib.hid fun n w => progPutF 8 (by omega) n w
  have HI : Hid (∀ n w, Calls Tryz.prog 87 #[.int .i64 0, .int .i64 n] w fun e w' => e = .returned (.tuple #[.int .u32 (putF 0 n), .bool (fitB 0 n)]) ∧ Below w.heap.size w w') := Lib.hid fun n w => progPutF 0 (by omega) n w
  go_enter Tryz.func54, Tryz.ntmps54
  go_wp2_with (first
    | (go_at_call 87; (with_reducible refine (HI.out _ _).mono ?_); rintro e ww2 ⟨rfl, hb2⟩; obtain ⟨HB2, hp, hq, hs⟩ := rows2 hb2; clear hb2 hp hq))
  go_ret
  exact ⟨rfl, HB2.out⟩

set_option maxHeartbeats 1000000 in
theorem write_11 (i : Ins) (w : World) :
    Calls Tryz.prog 54 #[.agg #[.int .u32 4261445631, .bool false, .bool true, .bool true, .int .i64 0, .bool false, .bool false], .agg #[.int .i64 i.op, .int .i64 i.rd, .int .i64 i.a, .int .i64 i.b, .int .i64 i.imm, .int .i64 i.csr, .bool i.aq, .bool i.rl]] w fun e w' => e = .returned (.int .u32 (bits .or .u32 (bits .or .u32 (bits .or .u32 (0) (put5 i.a 15)) (put5 i.b 20)) (putF 0 i.imm))) ∧ Below w.heap.size w w' := by
  have H7 : Hid (∀ n w, Calls Tryz.prog 85 #[.int .i64 n, .int .i64 7] w fun e w' => e = .returned (.int .u32 (put5 n 7)) ∧ w = w') := Lib.hid fun n w => put_any n 7 (by omega) w
  have H15 : Hid (∀ n w, Calls Tryz.prog 85 #[.int .i64 n, .int .i64 15] w fun e w' => e = .returned (.int .u32 (put5 n 15)) ∧ w = w') := Lib.hid fun n w => put_any n 15 (by omega) w
  have H20 : Hid (∀ n w, Calls Tryz.prog 85 #[.int .i64 n, .int .i64 20] w fun e w' => e = .returned (.int .u32 (put5 n 20)) ∧ w = w') := Lib.hid fun n w => put_any n 20 (by omega) w
  have H8 : Hid (∀ n w, Calls Tryz.prog 87 #[.int .i64 8, .int .i64 n] w fun e w' => e = .returned (.tuple #[.int .u32 (putF 8 n), .bool (fitB 8 n)]) ∧ Below w.heap.size w w') := Lib.hid fun n w => progPutF 8 (by omega) n w
  have HI : Hid (∀ n w, Calls Tryz.prog 87 #[.int .i64 0, .int .i64 n] w fun e w' => e = .returned (.tuple #[.int .u32 (putF 0 n), .bool (fitB 0 n)]) ∧ Below w.heap.size w w') := Lib.hid fun n w => progPutF 0 (by omega) n w
  go_enter Tryz.func54, Tryz.ntmps54
  go_wp2_with (first
    | (go_at_call 85; (with_reducible refine (H15.out _ _).mono ?_); rintro e w3 ⟨rfl, rfl⟩)
    | (go_at_call 85; (with_reducible refine (H20.out _ _).mono ?_); rintro e w3 ⟨rfl, rfl⟩)
    | (go_at_call 87; (with_reducible refine (HI.out _ _).mono ?_); rintro e ww2 ⟨rfl, hb2⟩; obtain ⟨HB2, hp, hq, hs⟩ := rows2 hb2; clear hb2 hp hq))
  go_ret
  exact ⟨rfl, HB2.out⟩

set_option maxHeartbeats 1000000 in
theorem write_12 (i : Ins) (w : World) :
    Calls Tryz.prog 54 #[.agg #[.int .u32 28799, .bool true, .bool true, .bool false, .int .i64 0, .bool true, .bool false], .agg #[.int .i64 i.op, .int .i64 i.rd, .int .i64 i.a, .int .i64 i.b, .int .i64 i.imm, .int .i64 i.csr, .bool i.aq, .bool i.rl]] w fun e w' => e = .returned (.int .u32 (bits .or .u32 (bits .or .u32 (bits .or .u32 (bits .or .u32 0 (put5 i.rd 7)) (put5 i.a 15)) (putF 8 i.csr)) (putF 0 i.imm))) ∧ Below w.heap.size w w' := by
  have H7 : Hid (∀ n w, Calls Tryz.prog 85 #[.int .i64 n, .int .i64 7] w fun e w' => e = .returned (.int .u32 (put5 n 7)) ∧ w = w') := Lib.hid fun n w => put_any n 7 (by omega) w
  have H15 : Hid (∀ n w, Calls Tryz.prog 85 #[.int .i64 n, .int .i64 15] w fun e w' => e = .returned (.int .u32 (put5 n 15)) ∧ w = w') := Lib.hid fun n w => put_any n 15 (by omega) w
  have H20 : Hid (∀ n w, Calls Tryz.prog 85 #[.int .i64 n, .int .i64 20] w fun e w' => e = .returned (.int .u32 (put5 n 20)) ∧ w = w') := Lib.hid fun n w => put_any n 20 (by omega) w
  have H8 : Hid (∀ n w, Calls Tryz.prog 87 #[.int .i64 8, .int .i64 n] w fun e w' => e = .returned (.tuple #[.int .u32 (putF 8 n), .bool (fitB 8 n)]) ∧ Below w.heap.size w w') := Lib.hid fun n w => progPutF 8 (by omega) n w
  have HI : Hid (∀ n w, Calls Tryz.prog 87 #[.int .i64 0, .int .i64 n] w fun e w' => e = .returned (.tuple #[.int .u32 (putF 0 n), .bool (fitB 0 n)]) ∧ Below w.heap.size w w') := Lib.hid fun n w => progPutF 0 (by omega) n w
  go_enter Tryz.func54, Tryz.ntmps54
  go_wp2_with (first
    | (go_at_call 85; (with_reducible refine (H7.out _ _).mono ?_); rintro e w3 ⟨rfl, rfl⟩)
    | (go_at_call 85; (with_reducible refine (H15.out _ _).mono ?_); rintro e w3 ⟨rfl, rfl⟩)
    | (go_at_call 87; (with_reducible refine (H8.out _ _).mono ?_); rintro e ww1 ⟨rfl, hb1⟩; obtain ⟨HB1, hp, hq, hs⟩ := rows2 hb1; have p4 : ww1.cell? ⟨w.heap.size, 4, none⟩ = some (.int .i64 0) := (by rw [hp]; rfl); have q4 : ww1.cell? ⟨w.heap.size + 1, 4, none⟩ = some (.int .i64 i.imm) := (by rw [hq]; rfl); clear hb1 hp hq)
    | (go_at_call 87; (with_reducible refine (HI.out _ _).mono ?_); rintro e ww2 ⟨rfl, hb2⟩; have HB2 : Hid (Below w.heap.size w ww2) := Lib.hid (HB1.out.trans (hb2.mono (by omega))); clear hb2))
  go_ret
  exact ⟨rfl, HB2.out⟩

set_option maxHeartbeats 1000000 in
theorem write_13 (i : Ins) (w : World) :
    Calls Tryz.prog 54 #[.agg #[.int .u32 28799, .bool true, .bool false, .bool false, .int .i64 9, .bool true, .bool false], .agg #[.int .i64 i.op, .int .i64 i.rd, .int .i64 i.a, .int .i64 i.b, .int .i64 i.imm, .int .i64 i.csr, .bool i.aq, .bool i.rl]] w fun e w' => e = .returned (.int .u32 (bits .or .u32 (bits .or .u32 (bits .or .u32 0 (put5 i.rd 7)) (putF 8 i.csr)) (putF 9 i.imm))) ∧ Below w.heap.size w w' := by
  have H7 : Hid (∀ n w, Calls Tryz.prog 85 #[.int .i64 n, .int .i64 7] w fun e w' => e = .returned (.int .u32 (put5 n 7)) ∧ w = w') := Lib.hid fun n w => put_any n 7 (by omega) w
  have H15 : Hid (∀ n w, Calls Tryz.prog 85 #[.int .i64 n, .int .i64 15] w fun e w' => e = .returned (.int .u32 (put5 n 15)) ∧ w = w') := Lib.hid fun n w => put_any n 15 (by omega) w
  have H20 : Hid (∀ n w, Calls Tryz.prog 85 #[.int .i64 n, .int .i64 20] w fun e w' => e = .returned (.int .u32 (put5 n 20)) ∧ w = w') := Lib.hid fun n w => put_any n 20 (by omega) w
  have H8 : Hid (∀ n w, Calls Tryz.prog 87 #[.int .i64 8, .int .i64 n] w fun e w' => e = .returned (.tuple #[.int .u32 (putF 8 n), .bool (fitB 8 n)]) ∧ Below w.heap.size w w') := Lib.hid fun n w => progPutF 8 (by omega) n w
  have HI : Hid (∀ n w, Calls Tryz.prog 87 #[.int .i64 9, .int .i64 n] w fun e w' => e = .returned (.tuple #[.int .u32 (putF 9 n), .bool (fitB 9 n)]) ∧ Below w.heap.size w w') := Lib.hid fun n w => progPutF 9 (by omega) n w
  go_enter Tryz.func54, Tryz.ntmps54
  go_wp2_with (first
    | (go_at_call 85; (with_reducible refine (H7.out _ _).mono ?_); rintro e w3 ⟨rfl, rfl⟩)
    | (go_at_call 87; (with_reducible refine (H8.out _ _).mono ?_); rintro e ww1 ⟨rfl, hb1⟩; obtain ⟨HB1, hp, hq, hs⟩ := rows2 hb1; have p4 : ww1.cell? ⟨w.heap.size, 4, none⟩ = some (.int .i64 9) := (by rw [hp]; rfl); have q4 : ww1.cell? ⟨w.heap.size + 1, 4, none⟩ = some (.int .i64 i.imm) := (by rw [hq]; rfl); clear hb1 hp hq)
    | (go_at_call 87; (with_reducible refine (HI.out _ _).mono ?_); rintro e ww2 ⟨rfl, hb2⟩; have HB2 : Hid (Below w.heap.size w ww2) := Lib.hid (HB1.out.trans (hb2.mono (by omega))); clear hb2))
  go_ret
  exact ⟨rfl, HB2.out⟩

set_option maxHeartbeats 1000000 in
theorem write_14 (i : Ins) (w : World) :
    Calls Tryz.prog 54 #[.agg #[.int .u32 4293947519, .bool true, .bool true, .bool false, .int .i64 0, .bool false, .bool false], .agg #[.int .i64 i.op, .int .i64 i.rd, .int .i64 i.a, .int .i64 i.b, .int .i64 i.imm, .int .i64 i.csr, .bool i.aq, .bool i.rl]] w fun e w' => e = .returned (.int .u32 (bits .or .u32 (bits .or .u32 (bits .or .u32 0 (put5 i.rd 7)) (put5 i.a 15)) (putF 0 i.imm))) ∧ Below w.heap.size w w' := by
  have H7 : Hid (∀ n w, Calls Tryz.prog 85 #[.int .i64 n, .int .i64 7] w fun e w' => e = .returned (.int .u32 (put5 n 7)) ∧ w = w') := Lib.hid fun n w => put_any n 7 (by omega) w
  have H15 : Hid (∀ n w, Calls Tryz.prog 85 #[.int .i64 n, .int .i64 15] w fun e w' => e = .returned (.int .u32 (put5 n 15)) ∧ w = w') := Lib.hid fun n w => put_any n 15 (by omega) w
  have H20 : Hid (∀ n w, Calls Tryz.prog 85 #[.int .i64 n, .int .i64 20] w fun e w' => e = .returned (.int .u32 (put5 n 20)) ∧ w = w') := Lib.hid fun n w => put_any n 20 (by omega) w
  have H8 : Hid (∀ n w, Calls Tryz.prog 87 #[.int .i64 8, .int .i64 n] w fun e w' => e = .returned (.tuple #[.int .u32 (putF 8 n), .bool (fitB 8 n)]) ∧ Below w.heap.size w w') := Lib.hid fun n w => progPutF 8 (by omega) n w
  have HI : Hid (∀ n w, Calls Tryz.prog 87 #[.int .i64 0, .int .i64 n] w fun e w' => e = .returned (.tuple #[.int .u32 (putF 0 n), .bool (fitB 0 n)]) ∧ Below w.heap.size w w') := Lib.hid fun n w => progPutF 0 (by omega) n w
  go_enter Tryz.func54, Tryz.ntmps54
  go_wp2_with (first
    | (go_at_call 85; (with_reducible refine (H7.out _ _).mono ?_); rintro e w3 ⟨rfl, rfl⟩)
    | (go_at_call 85; (with_reducible refine (H15.out _ _).mono ?_); rintro e w3 ⟨rfl, rfl⟩)
    | (go_at_call 87; (with_reducible refine (HI.out _ _).mono ?_); rintro e ww2 ⟨rfl, hb2⟩; obtain ⟨HB2, hp, hq, hs⟩ := rows2 hb2; clear hb2 hp hq))
  go_ret
  exact ⟨rfl, HB2.out⟩

end Go.Proofs.YtakdhdaoklcidaaGreatDoor

namespace Go.Proofs.YtakdhdaoklcidaaGreatDoor
open Go.RowKit
set_option linter.unusedVariables false
set_option maxRecDepth 100000

theorem says_is_0 (op x : Int) : says (frm 0) op x = ⟨op, fldZ x 11 7, 0, 0, (formL 4).number x, 0, false, false⟩ := by simp [says, frm]

theorem says_is_1 (op x : Int) : says (frm 1) op x = ⟨op, fldZ x 11 7, 0, 0, (formL 5).number x, 0, false, false⟩ := by simp [says, frm]

theorem says_is_2 (op x : Int) : says (frm 2) op x = ⟨op, fldZ x 11 7, fldZ x 19 15, 0, (formL 1).number x, 0, false, false⟩ := by simp [says, frm]

theorem says_is_3 (op x : Int) : says (frm 3) op x = ⟨op, 0, fldZ x 19 15, fldZ x 24 20, (formL 3).number x, 0, false, false⟩ := by simp [says, frm]

theorem says_is_4 (op x : Int) : says (frm 4) op x = ⟨op, 0, fldZ x 19 15, fldZ x 24 20, (formL 2).number x, 0, false, false⟩ := by simp [says, frm]

theorem says_is_5 (op x : Int) : says (frm 5) op x = ⟨op, fldZ x 11 7, fldZ x 19 15, 0, (formL 6).number x, 0, false, false⟩ := by simp [says, frm]

theorem says_is_6 (op x : Int) : says (frm 6) op x = ⟨op, fldZ x 11 7, fldZ x 19 15, 0, (formL 7).number x, 0, false, false⟩ := by simp [says, frm]

theorem says_is_7 (op x : Int) : says (frm 7) op x = ⟨op, fldZ x 11 7, fldZ x 19 15, fldZ x 24 20, 0, 0, false, false⟩ := by simp [says, frm, number0]

theorem says_is_8 (op x : Int) : says (frm 8) op x = ⟨op, fldZ x 11 7, fldZ x 19 15, 0, 0, 0, fldZ x 26 26 == 1, fldZ x 25 25 == 1⟩ := by simp [says, frm, number0]

theorem says_is_9 (op x : Int) : says (frm 9) op x = ⟨op, fldZ x 11 7, fldZ x 19 15, fldZ x 24 20, 0, 0, fldZ x 26 26 == 1, fldZ x 25 25 == 1⟩ := by simp [says, frm, number0]

theorem says_is_10 (op x : Int) : says (frm 10) op x = ⟨op, 0, 0, 0, 0, 0, false, false⟩ := by simp [says, frm, number0]

theorem says_is_11 (op x : Int) : says (frm 11) op x = ⟨op, 0, fldZ x 19 15, fldZ x 24 20, 0, 0, false, false⟩ := by simp [says, frm, number0]

theorem says_is_12 (op x : Int) : says (frm 12) op x = ⟨op, fldZ x 11 7, fldZ x 19 15, 0, 0, fldZ x 31 20, false, false⟩ := by simp [says, frm, number0]

theorem says_is_13 (op x : Int) : says (frm 13) op x = ⟨op, fldZ x 11 7, 0, 0, (formL 9).number x, fldZ x 31 20, false, false⟩ := by simp [says, frm]

theorem says_is_14 (op x : Int) : says (frm 14) op x = ⟨op, fldZ x 11 7, fldZ x 19 15, 0, 0, 0, false, false⟩ := by simp [says, frm, number0]

theorem read_any (f : Nat) (hf : f < 15) (op x : Int) (w : World) :
    Calls Tryz.prog 55 #[.agg #[.int .u32 (frm f).mask, .bool (frm f).rd, .bool (frm f).a, .bool (frm f).b, .int .i64 (frm f).imm, .bool (frm f).csr, .bool (frm f).ord], .int .i64 op, .int .u32 x] w fun e w' => e = .returned (.agg #[.int .i64 (says (frm f) op x).op, .int .i64 (says (frm f) op x).rd, .int .i64 (says (frm f) op x).a, .int .i64 (says (frm f) op x).b, .int .i64 (says (frm f) op x).imm, .int .i64 (says (frm f) op x).csr, .bool (says (frm f) op x).aq, .bool (says (frm f) op x).rl]) ∧ Below w.heap.size w w' :=
  match f, hf with
  | 0, _ => by rw [says_is_0]; exact read_0 op x w
  | 1, _ => by rw [says_is_1]; exact read_1 op x w
  | 2, _ => by rw [says_is_2]; exact read_2 op x w
  | 3, _ => by rw [says_is_3]; exact read_3 op x w
  | 4, _ => by rw [says_is_4]; exact read_4 op x w
  | 5, _ => by rw [says_is_5]; exact read_5 op x w
  | 6, _ => by rw [says_is_6]; exact read_6 op x w
  | 7, _ => by rw [says_is_7]; exact read_7 op x w
  | 8, _ => by rw [says_is_8]; exact read_8 op x w
  | 9, _ => by rw [says_is_9]; exact read_9 op x w
  | 10, _ => by rw [says_is_10]; exact read_10 op x w
  | 11, _ => by rw [says_is_11]; exact read_11 op x w
  | 12, _ => by rw [says_is_12]; exact read_12 op x w
  | 13, _ => by rw [says_is_13]; exact read_13 op x w
  | 14, _ => by rw [says_is_14]; exact read_14 op x w
  | f + 15, h => absurd h (by omega)

theorem wF_is_0 (i : Ins) : wF (frm 0) i = bits .or .u32 (bits .or .u32 0 (put5 i.rd 7)) (putF 4 i.imm) := by simp [wF, w5, w4, w3, w2, w1, frm]

theorem wF_is_1 (i : Ins) : wF (frm 1) i = bits .or .u32 (bits .or .u32 0 (put5 i.rd 7)) (putF 5 i.imm) := by simp [wF, w5, w4, w3, w2, w1, frm]

theorem wF_is_2 (i : Ins) : wF (frm 2) i = bits .or .u32 (bits .or .u32 (bits .or .u32 0 (put5 i.rd 7)) (put5 i.a 15)) (putF 1 i.imm) := by simp [wF, w5, w4, w3, w2, w1, frm]

theorem wF_is_3 (i : Ins) : wF (frm 3) i = bits .or .u32 (bits .or .u32 (bits .or .u32 (0) (put5 i.a 15)) (put5 i.b 20)) (putF 3 i.imm) := by simp [wF, w5, w4, w3, w2, w1, frm]

theorem wF_is_4 (i : Ins) : wF (frm 4) i = bits .or .u32 (bits .or .u32 (bits .or .u32 (0) (put5 i.a 15)) (put5 i.b 20)) (putF 2 i.imm) := by simp [wF, w5, w4, w3, w2, w1, frm]

theorem wF_is_5 (i : Ins) : wF (frm 5) i = bits .or .u32 (bits .or .u32 (bits .or .u32 0 (put5 i.rd 7)) (put5 i.a 15)) (putF 6 i.imm) := by simp [wF, w5, w4, w3, w2, w1, frm]

theorem wF_is_6 (i : Ins) : wF (frm 6) i = bits .or .u32 (bits .or .u32 (bits .or .u32 0 (put5 i.rd 7)) (put5 i.a 15)) (putF 7 i.imm) := by simp [wF, w5, w4, w3, w2, w1, frm]

theorem wF_is_7 (i : Ins) : wF (frm 7) i = bits .or .u32 (bits .or .u32 (bits .or .u32 (bits .or .u32 0 (put5 i.rd 7)) (put5 i.a 15)) (put5 i.b 20)) (putF 0 i.imm) := by simp [wF, w5, w4, w3, w2, w1, frm]

theorem wF_is_8 (i : Ins) : wF (frm 8) i = bits .or .u32 (bits .or .u32 (bits .or .u32 (bits .or .u32 0 (put5 i.rd 7)) (put5 i.a 15)) (bits .or .u32 (markZ i.aq 26) (markZ i.rl 25))) (putF 0 i.imm) := by simp [wF, w5, w4, w3, w2, w1, frm]

theorem wF_is_9 (i : Ins) : wF (frm 9) i = bits .or .u32 (bits .or .u32 (bits .or .u32 (bits .or .u32 (bits .or .u32 0 (put5 i.rd 7)) (put5 i.a 15)) (put5 i.b 20)) (bits .or .u32 (markZ i.aq 26) (markZ i.rl 25))) (putF 0 i.imm) := by simp [wF, w5, w4, w3, w2, w1, frm]

theorem wF_is_10 (i : Ins) : wF (frm 10) i = bits .or .u32 (0) (putF 0 i.imm) := by simp [wF, w5, w4, w3, w2, w1, frm]

theorem wF_is_11 (i : Ins) : wF (frm 11) i = bits .or .u32 (bits .or .u32 (bits .or .u32 (0) (put5 i.a 15)) (put5 i.b 20)) (putF 0 i.imm) := by simp [wF, w5, w4, w3, w2, w1, frm]

theorem wF_is_12 (i : Ins) : wF (frm 12) i = bits .or .u32 (bits .or .u32 (bits .or .u32 (bits .or .u32 0 (put5 i.rd 7)) (put5 i.a 15)) (putF 8 i.csr)) (putF 0 i.imm) := by simp [wF, w5, w4, w3, w2, w1, frm]

theorem wF_is_13 (i : Ins) : wF (frm 13) i = bits .or .u32 (bits .or .u32 (bits .or .u32 0 (put5 i.rd 7)) (putF 8 i.csr)) (putF 9 i.imm) := by simp [wF, w5, w4, w3, w2, w1, frm]

theorem wF_is_14 (i : Ins) : wF (frm 14) i = bits .or .u32 (bits .or .u32 (bits .or .u32 0 (put5 i.rd 7)) (put5 i.a 15)) (putF 0 i.imm) := by simp [wF, w5, w4, w3, w2, w1, frm]

theorem write_any (f : Nat) (hf : f < 15) (i : Ins) (w : World) :
    Calls Tryz.prog 54 #[.agg #[.int .u32 (frm f).mask, .bool (frm f).rd, .bool (frm f).a, .bool (frm f).b, .int .i64 (frm f).imm, .bool (frm f).csr, .bool (frm f).ord], .agg #[.int .i64 i.op, .int .i64 i.rd, .int .i64 i.a, .int .i64 i.b, .int .i64 i.imm, .int .i64 i.csr, .bool i.aq, .bool i.rl]] w fun e w' => e = .returned (.int .u32 (wF (frm f) i)) ∧ Below w.heap.size w w' :=
  match f, hf with
  | 0, _ => by rw [wF_is_0]; exact write_0 i w
  | 1, _ => by rw [wF_is_1]; exact write_1 i w
  | 2, _ => by rw [wF_is_2]; exact write_2 i w
  | 3, _ => by rw [wF_is_3]; exact write_3 i w
  | 4, _ => by rw [wF_is_4]; exact write_4 i w
  | 5, _ => by rw [wF_is_5]; exact write_5 i w
  | 6, _ => by rw [wF_is_6]; exact write_6 i w
  | 7, _ => by rw [wF_is_7]; exact write_7 i w
  | 8, _ => by rw [wF_is_8]; exact write_8 i w
  | 9, _ => by rw [wF_is_9]; exact write_9 i w
  | 10, _ => by rw [wF_is_10]; exact write_10 i w
  | 11, _ => by rw [wF_is_11]; exact write_11 i w
  | 12, _ => by rw [wF_is_12]; exact write_12 i w
  | 13, _ => by rw [wF_is_13]; exact write_13 i w
  | 14, _ => by rw [wF_is_14]; exact write_14 i w
  | f + 15, h => absurd h (by omega)

end Go.Proofs.YtakdhdaoklcidaaGreatDoor

namespace Go.Proofs.YtakdhdaoklcidaaGreatDoor
open Go.RowKit
set_option linter.unusedVariables false
set_option maxRecDepth 100000

/-- The answer's block still holds nothing. -/
structure Zr (w wr : World) : Prop where
  bel : Below w.heap.size w wr
  row : wr.heap[w.heap.size]? = some (.cells #[.int .i64 0, .int .i64 0, .int .i64 0, .int .i64 0, .int .i64 0, .int .i64 0, .bool false, .bool false] 23 (0, 0))

theorem Zr.lt {w wr : World} (h : Zr w wr) : w.heap.size < wr.heap.size := (Array.getElem?_eq_some_iff.1 h.row).1

theorem Zr.go {w wr w2 : World} (h : Zr w wr) (hb : Below wr.heap.size wr w2) : Zr w w2 := ⟨h.bel.trans (hb.mono (Nat.le_of_lt h.lt)), (hb.block _ h.lt).trans h.row⟩

theorem Zr.alloc {w wr : World} (h : Zr w wr) (o : Obj) : Zr w (wr.alloc o) := h.go ((Below.refl _ _).alloc (Nat.le_refl _) _)

theorem Zr.tab {w wr : World} (h : Zr w wr) (ht : Tab w) : Tab wr := ht.below h.bel

theorem forms_at {w : World} (ht : Tab w) {f : Nat} (hf : f < 15) : w.cell? ⟨0, f * 7, none⟩ = some (.int .u32 (frm f).mask) ∧ w.cell? ⟨0, f * 7 + 1, none⟩ = some (.bool (frm f).rd) ∧ w.cell? ⟨0, f * 7 + 2, none⟩ = some (.bool (frm f).a) ∧ w.cell? ⟨0, f * 7 + 3, none⟩ = some (.bool (frm f).b) ∧ w.cell? ⟨0, f * 7 + 4, none⟩ = some (.int .i64 (frm f).imm) ∧ w.cell? ⟨0, f * 7 + 5, none⟩ = some (.bool (frm f).csr) ∧ w.cell? ⟨0, f * 7 + 6, none⟩ = some (.bool (frm f).ord) := by
  obtain ⟨a, b, c, d, e, g, h⟩ := forms_row f hf
  exact ⟨ht.cell a, ht.cell b, ht.cell c, ht.cell d, ht.cell e, ht.cell g, ht.cell h⟩

end Go.Proofs.YtakdhdaoklcidaaGreatDoor

namespace Go.Proofs.YtakdhdaoklcidaaGreatDoor
open Go.RowKit
set_option linter.unusedVariables false
set_option maxRecDepth 100000

theorem name_yes (k : Nat) (h1 : 1 ≤ k) (h2 : k ≤ 113) (w : World) :
    Calls Tryz.prog 25 #[.int .i64 k] w fun e w' => e = .returned (.string (nameT k)) ∧ Below w.heap.size w w' := by
  have HF := Lib.hid (dfind_any k h1 h2)
  generalize nameT k = nm at *
  generalize matT k = mt at *
  generalize frmT k = f at *
  clear h1 h2
  go_enter Tryz.func25, Tryz.ntmps25
  go_wp2_with (go_at_call 53; (with_reducible refine (HF.out _).mono ?_); rintro e1 w1 ⟨rfl, hb1⟩)
  go_ret
  exact ⟨rfl, hb1.alloc hb1.size _⟩
/-- Whether a name is a text. -/
def sameT (k : Nat) (s : ByteArray) : Bool := (nameT k).toList == s.toList
set_option maxHeartbeats 1000000 in
theorem op_yes (k : Nat) (h1 : 1 ≤ k) (h2 : k ≤ 113) (s : ByteArray) (hk : sameT k s = true) (hno : ∀ j, 1 ≤ j → j < k → sameT j s = false) (w : World) :
    Calls Tryz.prog 37 #[.string s] w fun e w' => e = .returned (.int .i64 k) ∧ Below w.heap.size w w' := by
  have HK := Lib.hid hk
  have HNO := Lib.hid hno
  clear hk hno
  go_enter Tryz.func37, Tryz.ntmps37
  go_wp2
  go_loopw [3] (fun i wr => ∃ j : Nat, 1 ≤ j ∧ j ≤ k ∧ i = .int .i64 j ∧ Below w.heap.size w wr) (fun i _ => (k + 1 - intOf i).toNat)
  case atStart => exact ⟨1, by omega, h1, rfl, Below.refl _ _⟩
  case round =>
    obtain ⟨j, hj1, hj2, rfl, hz⟩ := hrel
    have HZ := Lib.hid hz
    clear hz
    have hj3 : (j : Int) ≤ 113 := by omega
    have HF := Lib.hid fun w => name_yes j hj1 (by omega) w
    by_cases e : j < k
    · have hq : ((nameT j).toList == s.toList) = false := HNO.out j hj1 e
      generalize nameT j = nm at *
      clear hj1
      go_wp2_with (go_at_call 25; (with_reducible refine (HF.out _).mono ?_); rintro e1 w1 ⟨rfl, hb1⟩; have HZ1 := Lib.hid (HZ.out.trans (hb1.mono HZ.out.size)); clear hb1)
      go_roundw
      case rel => exact ⟨j + 1, by omega, by omega, by go_num, HZ1.out⟩
      case measure => simp [intOf]; omega
    · obtain rfl : j = k := by omega
      have hq : ((nameT j).toList == s.toList) = true := HK.out
      generalize nameT j = nm at *
      clear hj1
      go_wp2_with (go_at_call 25; (with_reducible refine (HF.out _).mono ?_); rintro e1 w1 ⟨rfl, hb1⟩; have HZ1 := Lib.hid (HZ.out.trans (hb1.mono HZ.out.size)); clear hb1)
      go_ret
      exact ⟨rfl, HZ1.out⟩
set_option maxHeartbeats 1000000 in
theorem op_no (s : ByteArray) (hno : ∀ j, 1 ≤ j → j ≤ 113 → sameT j s = false) (w : World) :
    Calls Tryz.prog 37 #[.string s] w fun e w' => e = .returned (.int .i64 0) ∧ Below w.heap.size w w' := by
  have HNO := Lib.hid hno
  clear hno
  go_enter Tryz.func37, Tryz.ntmps37
  go_wp2
  go_loopw [3] (fun i wr => ∃ j : Nat, 1 ≤ j ∧ j ≤ 114 ∧ i = .int .i64 j ∧ Below w.heap.size w wr) (fun i _ => (115 - intOf i).toNat)
  case atStart => exact ⟨1, by omega, by omega, rfl, Below.refl _ _⟩
  case round =>
    obtain ⟨j, hj1, hj2, rfl, hz⟩ := hrel
    have HZ := Lib.hid hz
    clear hz
    by_cases e : j ≤ 113
    · have hj3 : (j : Int) ≤ 113 := by omega
      have HF := Lib.hid fun w => name_yes j hj1 (by omega) w
      have hq : ((nameT j).toList == s.toList) = false := HNO.out j hj1 e
      generalize nameT j = nm at *
      clear hj1
      go_wp2_with (go_at_call 25; (with_reducible refine (HF.out _).mono ?_); rintro e1 w1 ⟨rfl, hb1⟩; have HZ1 := Lib.hid (HZ.out.trans (hb1.mono HZ.out.size)); clear hb1)
      go_roundw
      case rel => exact ⟨j + 1, by omega, by omega, by go_num, HZ1.out⟩
      case measure => simp [intOf]; omega
    · obtain rfl : j = 114 := by omega
      go_wp2
      go_ret
      exact ⟨rfl, HZ.out⟩

theorem eq_ins (u v : Ins) (w : World) : (Op.equalIn 10000 23 (.agg #[.int .i64 u.op, .int .i64 u.rd, .int .i64 u.a, .int .i64 u.b, .int .i64 u.imm, .int .i64 u.csr, .bool u.aq, .bool u.rl]) (.agg #[.int .i64 v.op, .int .i64 v.rd, .int .i64 v.a, .int .i64 v.b, .int .i64 v.imm, .int .i64 v.csr, .bool v.aq, .bool v.rl])).run Tryz.prog w = .ok (eqI u v) w := by
  simp [go_sem, eqI]
  repeat' split
  all_goals simp_all
theorem neq_ins (u v : Ins) (w : World) : (binOp .neq 23 (.agg #[.int .i64 u.op, .int .i64 u.rd, .int .i64 u.a, .int .i64 u.b, .int .i64 u.imm, .int .i64 u.csr, .bool u.aq, .bool u.rl]) (.agg #[.int .i64 v.op, .int .i64 v.rd, .int .i64 v.a, .int .i64 v.b, .int .i64 v.imm, .int .i64 v.csr, .bool v.aq, .bool v.rl])).run Tryz.prog w = .ok (.bool (!eqI u v)) w := by
  rw [run_neq_struct, eq_ins]; rfl
set_option maxHeartbeats 1000000 in
theorem encode_none (i : Ins) (h : ¬ (1 ≤ i.op ∧ i.op ≤ 113)) (w : World) :
    Calls Tryz.prog 21 #[.agg #[.int .i64 i.op, .int .i64 i.rd, .int .i64 i.a, .int .i64 i.b, .int .i64 i.imm, .int .i64 i.csr, .bool i.aq, .bool i.rl]] w fun e w' => e = .returned (.tuple #[.int .u32 0, .int .i64 80]) ∧ Below w.heap.size w w' := by
  have HF := Lib.hid (dfind_none i.op h)
  clear h
  go_enter Tryz.func21, Tryz.ntmps21
  go_wp2_with (go_at_call 53; (with_reducible refine (HF.out _).mono ?_); rintro e1 w1 ⟨rfl, hb1⟩; have HB := Lib.hid (((Below.refl _ _).alloc (Nat.le_refl _) _).trans (hb1.mono (by simp))); clear hb1)
  go_ret2
  exact ⟨rfl, HB.out.alloc HB.out.size _⟩

end Go.Proofs.YtakdhdaoklcidaaGreatDoor

namespace Go.Proofs.YtakdhdaoklcidaaGreatDoor
open Go.RowKit
set_option linter.unusedVariables false
set_option maxRecDepth 100000

set_option maxHeartbeats 4000000 in
theorem encode_true (k : Nat) (h1 : 1 ≤ k) (h2 : k ≤ 113) (i : Ins) (hk : i.op = k) (W : Int) (hW : wordI (matT k) (fT k) i = W) (hq : eqI (says (fT k) i.op W) i = true) (w : World) (ht : Tab w) :
    Calls Tryz.prog 21 #[.agg #[.int .i64 i.op, .int .i64 i.rd, .int .i64 i.a, .int .i64 i.b, .int .i64 i.imm, .int .i64 i.csr, .bool i.aq, .bool i.rl]] w fun e w' => e = .returned (.tuple #[.int .u32 W, .int .i64 0]) ∧ Below w.heap.size w w' := by
  have HT := Lib.hid ht
  have HF : Hid (∀ w, Calls Tryz.prog 53 #[.int .i64 i.op] w fun e w' => e = .returned (.tuple #[.agg #[.string (nameT k), .int .u32 (matT k), .int .u8 (frmT k)], .bool true]) ∧ Below w.heap.size w w') := Lib.hid fun w => by rw [hk]; exact dfind_any k h1 h2 w
  have hff := tab_form k (by omega) h1
  have HWR := Lib.hid fun w => write_any (frmT k) hff i w
  have HR := Lib.hid fun w => read_any (frmT k) hff i.op W w
  have HW : Hid (bits .or .u32 (matT k) (wF (frm (frmT k)) i) = W) := Lib.hid hW
  have HN := Lib.hid fun w => neq_ins (says (frm (frmT k)) i.op W) i w
  have HQ : Hid (eqI (says (frm (frmT k)) i.op W) i = true) := Lib.hid hq
  clear ht hq hW hk h1 h2
  rw [HQ.out] at HN
  generalize says (frm (frmT k)) i.op W = V at *
  generalize nameT k = nm at *
  generalize (matT k : Int) = mt at *
  generalize frmT k = f at *
  have HFF := Lib.hid hff
  have hf15 : (f : Int) < 15 := by omega
  have hf0 : (0 : Int) ≤ f := by omega
  clear hff
  go_enter Tryz.func21, Tryz.ntmps21
  go_wp2_with (go_at_call 53; (with_reducible refine (HF.out _).mono ?_); rintro e1 w1 ⟨rfl, hb1⟩; have HB1 : Hid (Below w.heap.size w w1) := Lib.hid (((Below.refl _ _).alloc (Nat.le_refl _) _).trans (hb1.mono (by simp))); have hs1 : w.heap.size < w1.heap.size := (by have := hb1.size; simp at this; omega); have HIR : Hid (w1.heap[w.heap.size]? = some (.cells #[.int .i64 i.op, .int .i64 i.rd, .int .i64 i.a, .int .i64 i.b, .int .i64 i.imm, .int .i64 i.csr, .bool i.aq, .bool i.rl] 23 (0, 0))) := Lib.hid ((hb1.block _ (by simp)).trans (heap_alloc_new w _)); obtain ⟨c0, c1, c2, c3, c4, c5, c6⟩ := forms_at (HT.out.below HB1.out) HFF.out; have hg0 : 0 < w1.heap.size := (HT.out.below HB1.out).lt; clear hb1)
  have HB2 : Hid (Below w.heap.size w ((w1.alloc (.cells #[.string nm, .int .u32 mt, .int .u8 f] 92)).alloc (.cells #[.int .u32 (frm f).mask, .bool (frm f).rd, .bool (frm f).a, .bool (frm f).b, .int .i64 (frm f).imm, .bool (frm f).csr, .bool (frm f).ord] 96))) := Lib.hid ((HB1.out.alloc (by omega) _).alloc (by rw [World.size_alloc]; omega) _)
  have hd : ((w1.alloc (.cells #[.string nm, .int .u32 mt, .int .u8 f] 92)).alloc (.cells #[.int .u32 (frm f).mask, .bool (frm f).rd, .bool (frm f).a, .bool (frm f).b, .int .i64 (frm f).imm, .bool (frm f).csr, .bool (frm f).ord] 96)).cell? ⟨w1.heap.size, 1, none⟩ = some (.int .u32 mt) ∧ ((w1.alloc (.cells #[.string nm, .int .u32 mt, .int .u8 f] 92)).alloc (.cells #[.int .u32 (frm f).mask, .bool (frm f).rd, .bool (frm f).a, .bool (frm f).b, .int .i64 (frm f).imm, .bool (frm f).csr, .bool (frm f).ord] 96)).cell? ⟨w1.heap.size + 1, 0, none⟩ = some (.int .u32 (frm f).mask) ∧ ((w1.alloc (.cells #[.string nm, .int .u32 mt, .int .u8 f] 92)).alloc (.cells #[.int .u32 (frm f).mask, .bool (frm f).rd, .bool (frm f).a, .bool (frm f).b, .int .i64 (frm f).imm, .bool (frm f).csr, .bool (frm f).ord] 96)).cell? ⟨w1.heap.size + 1, 1, none⟩ = some (.bool (frm f).rd) ∧ ((w1.alloc (.cells #[.string nm, .int .u32 mt, .int .u8 f] 92)).alloc (.cells #[.int .u32 (frm f).mask, .bool (frm f).rd, .bool (frm f).a, .bool (frm f).b, .int .i64 (frm f).imm, .bool (frm f).csr, .bool (frm f).ord] 96)).cell? ⟨w1.heap.size + 1, 2, none⟩ = some (.bool (frm f).a) ∧ ((w1.alloc (.cells #[.string nm, .int .u32 mt, .int .u8 f] 92)).alloc (.cells #[.int .u32 (frm f).mask, .bool (frm f).rd, .bool (frm f).a, .bool (frm f).b, .int .i64 (frm f).imm, .bool (frm f).csr, .bool (frm f).ord] 96)).cell? ⟨w1.heap.size + 1, 3, none⟩ = some (.bool (frm f).b) ∧ ((w1.alloc (.cells #[.string nm, .int .u32 mt, .int .u8 f] 92)).alloc (.cells #[.int .u32 (frm f).mask, .bool (frm f).rd, .bool (frm f).a, .bool (frm f).b, .int .i64 (frm f).imm, .bool (frm f).csr, .bool (frm f).ord] 96)).cell? ⟨w1.heap.size + 1, 4, none⟩ = some (.int .i64 (frm f).imm) ∧ ((w1.alloc (.cells #[.string nm, .int .u32 mt, .int .u8 f] 92)).alloc (.cells #[.int .u32 (frm f).mask, .bool (frm f).rd, .bool (frm f).a, .bool (frm f).b, .int .i64 (frm f).imm, .bool (frm f).csr, .bool (frm f).ord] 96)).cell? ⟨w1.heap.size + 1, 5, none⟩ = some (.bool (frm f).csr) ∧ ((w1.alloc (.cells #[.string nm, .int .u32 mt, .int .u8 f] 92)).alloc (.cells #[.int .u32 (frm f).mask, .bool (frm f).rd, .bool (frm f).a, .bool (frm f).b, .int .i64 (frm f).imm, .bool (frm f).csr, .bool (frm f).ord] 96)).cell? ⟨w1.heap.size + 1, 6, none⟩ = some (.bool (frm f).ord) ∧ ((w1.alloc (.cells #[.string nm, .int .u32 mt, .int .u8 f] 92)).alloc (.cells #[.int .u32 (frm f).mask, .bool (frm f).rd, .bool (frm f).a, .bool (frm f).b, .int .i64 (frm f).imm, .bool (frm f).csr, .bool (frm f).ord] 96)).cell? ⟨w.heap.size, 0, none⟩ = some (.int .i64 i.op) ∧ ((w1.alloc (.cells #[.string nm, .int .u32 mt, .int .u8 f] 92)).alloc (.cells #[.int .u32 (frm f).mask, .bool (frm f).rd, .bool (frm f).a, .bool (frm f).b, .int .i64 (frm f).imm, .bool (frm f).csr, .bool (frm f).ord] 96)).cell? ⟨w.heap.size, 1, none⟩ = some (.int .i64 i.rd) ∧ ((w1.alloc (.cells #[.string nm, .int .u32 mt, .int .u8 f] 92)).alloc (.cells #[.int .u32 (frm f).mask, .bool (frm f).rd, .bool (frm f).a, .bool (frm f).b, .int .i64 (frm f).imm, .bool (frm f).csr, .bool (frm f).ord] 96)).cell? ⟨w.heap.size, 2, none⟩ = some (.int .i64 i.a) ∧ ((w1.alloc (.cells #[.string nm, .int .u32 mt, .int .u8 f] 92)).alloc (.cells #[.int .u32 (frm f).mask, .bool (frm f).rd, .bool (frm f).a, .bool (frm f).b, .int .i64 (frm f).imm, .bool (frm f).csr, .bool (frm f).ord] 96)).cell? ⟨w.heap.size, 3, none⟩ = some (.int .i64 i.b) ∧ ((w1.alloc (.cells #[.string nm, .int .u32 mt, .int .u8 f] 92)).alloc (.cells #[.int .u32 (frm f).mask, .bool (frm f).rd, .bool (frm f).a, .bool (frm f).b, .int .i64 (frm f).imm, .bool (frm f).csr, .bool (frm f).ord] 96)).cell? ⟨w.heap.size, 4, none⟩ = some (.int .i64 i.imm) ∧ ((w1.alloc (.cells #[.string nm, .int .u32 mt, .int .u8 f] 92)).alloc (.cells #[.int .u32 (frm f).mask, .bool (frm f).rd, .bool (frm f).a, .bool (frm f).b, .int .i64 (frm f).imm, .bool (frm f).csr, .bool (frm f).ord] 96)).cell? ⟨w.heap.size, 5, none⟩ = some (.int .i64 i.csr) ∧ ((w1.alloc (.cells #[.string nm, .int .u32 mt, .int .u8 f] 92)).alloc (.cells #[.int .u32 (frm f).mask, .bool (frm f).rd, .bool (frm f).a, .bool (frm f).b, .int .i64 (frm f).imm, .bool (frm f).csr, .bool (frm f).ord] 96)).cell? ⟨w.heap.size, 6, none⟩ = some (.bool i.aq) ∧ ((w1.alloc (.cells #[.string nm, .int .u32 mt, .int .u8 f] 92)).alloc (.cells #[.int .u32 (frm f).mask, .bool (frm f).rd, .bool (frm f).a, .bool (frm f).b, .int .i64 (frm f).imm, .bool (frm f).csr, .bool (frm f).ord] 96)).cell? ⟨w.heap.size, 7, none⟩ = some (.bool i.rl) := by
    have r1 : ((w1.alloc (.cells #[.string nm, .int .u32 mt, .int .u8 f] 92)).alloc (.cells #[.int .u32 (frm f).mask, .bool (frm f).rd, .bool (frm f).a, .bool (frm f).b, .int .i64 (frm f).imm, .bool (frm f).csr, .bool (frm f).ord] 96)).heap[w1.heap.size]? = some (.cells #[.string nm, .int .u32 mt, .int .u8 f] 92 (0, 0)) := by
      rw [Below.heap_alloc _ _ _ (by rw [World.size_alloc]; omega)]; exact heap_alloc_new w1 _
    have r2 : ((w1.alloc (.cells #[.string nm, .int .u32 mt, .int .u8 f] 92)).alloc (.cells #[.int .u32 (frm f).mask, .bool (frm f).rd, .bool (frm f).a, .bool (frm f).b, .int .i64 (frm f).imm, .bool (frm f).csr, .bool (frm f).ord] 96)).heap[w1.heap.size + 1]? = some (.cells #[.int .u32 (frm f).mask, .bool (frm f).rd, .bool (frm f).a, .bool (frm f).b, .int .i64 (frm f).imm, .bool (frm f).csr, .bool (frm f).ord] 96 (0, 0)) := by
      rw [← World.size_alloc w1 (.cells #[.string nm, .int .u32 mt, .int .u8 f] 92)]; exact heap_alloc_new _ _
    have r3 : ((w1.alloc (.cells #[.string nm, .int .u32 mt, .int .u8 f] 92)).alloc (.cells #[.int .u32 (frm f).mask, .bool (frm f).rd, .bool (frm f).a, .bool (frm f).b, .int .i64 (frm f).imm, .bool (frm f).csr, .bool (frm f).ord] 96)).heap[w.heap.size]? = some (.cells #[.int .i64 i.op, .int .i64 i.rd, .int .i64 i.a, .int .i64 i.b, .int .i64 i.imm, .int .i64 i.csr, .bool i.aq, .bool i.rl] 23 (0, 0)) := by
      rw [Below.heap_alloc _ _ _ (by rw [World.size_alloc]; omega), Below.heap_alloc _ _ _ hs1]; exact HIR.out
    exact ⟨cell_of_row _ _ _ _ _ _ r1, cell_of_row _ _ _ _ _ _ r2, cell_of_row _ _ _ _ _ _ r2, cell_of_row _ _ _ _ _ _ r2, cell_of_row _ _ _ _ _ _ r2, cell_of_row _ _ _ _ _ _ r2, cell_of_row _ _ _ _ _ _ r2, cell_of_row _ _ _ _ _ _ r2, cell_of_row _ _ _ _ _ _ r3, cell_of_row _ _ _ _ _ _ r3, cell_of_row _ _ _ _ _ _ r3, cell_of_row _ _ _ _ _ _ r3, cell_of_row _ _ _ _ _ _ r3, cell_of_row _ _ _ _ _ _ r3, cell_of_row _ _ _ _ _ _ r3, cell_of_row _ _ _ _ _ _ r3⟩
  obtain ⟨dm, df0, df1, df2, df3, df4, df5, df6, di0, di1, di2, di3, di4, di5, di6, di7⟩ := hd
  have hm2 : w1.heap.size < ((w1.alloc (.cells #[.string nm, .int .u32 mt, .int .u8 f] 92)).alloc (.cells #[.int .u32 (frm f).mask, .bool (frm f).rd, .bool (frm f).a, .bool (frm f).b, .int .i64 (frm f).imm, .bool (frm f).csr, .bool (frm f).ord] 96)).heap.size := by rw [World.size_alloc, World.size_alloc]; omega
  have hm3 : w1.heap.size + 1 < ((w1.alloc (.cells #[.string nm, .int .u32 mt, .int .u8 f] 92)).alloc (.cells #[.int .u32 (frm f).mask, .bool (frm f).rd, .bool (frm f).a, .bool (frm f).b, .int .i64 (frm f).imm, .bool (frm f).csr, .bool (frm f).ord] 96)).heap.size := by rw [World.size_alloc, World.size_alloc]; omega
  have hn2 : w.heap.size < ((w1.alloc (.cells #[.string nm, .int .u32 mt, .int .u8 f] 92)).alloc (.cells #[.int .u32 (frm f).mask, .bool (frm f).rd, .bool (frm f).a, .bool (frm f).b, .int .i64 (frm f).imm, .bool (frm f).csr, .bool (frm f).ord] 96)).heap.size := by rw [World.size_alloc, World.size_alloc]; omega
  clear c0 c1 c2 c3 c4 c5 c6 hg0 HIR hs1 HB1
  generalize hw2 : ((w1.alloc (.cells #[.string nm, .int .u32 mt, .int .u8 f] 92)).alloc (.cells #[.int .u32 (frm f).mask, .bool (frm f).rd, .bool (frm f).a, .bool (frm f).b, .int .i64 (frm f).imm, .bool (frm f).csr, .bool (frm f).ord] 96)) = w2 at *
  clear hw2
  generalize hm : w1.heap.size = m at *
  generalize hn : w.heap.size = n at *
  have HNN := Lib.hid hn
  clear hm hn
  go_region_held3 (fun w' => w'.cell? ⟨m, 1, none⟩ = some (.int .u32 mt) ∧ w'.cell? ⟨m + 1, 0, none⟩ = some (.int .u32 (frm f).mask) ∧ w'.cell? ⟨m + 1, 1, none⟩ = some (.bool (frm f).rd) ∧ w'.cell? ⟨m + 1, 2, none⟩ = some (.bool (frm f).a) ∧ w'.cell? ⟨m + 1, 3, none⟩ = some (.bool (frm f).b) ∧ w'.cell? ⟨m + 1, 4, none⟩ = some (.int .i64 (frm f).imm) ∧ w'.cell? ⟨m + 1, 5, none⟩ = some (.bool (frm f).csr) ∧ w'.cell? ⟨m + 1, 6, none⟩ = some (.bool (frm f).ord) ∧ w'.cell? ⟨n, 0, none⟩ = some (.int .i64 i.op) ∧ w'.cell? ⟨n, 1, none⟩ = some (.int .i64 i.rd) ∧ w'.cell? ⟨n, 2, none⟩ = some (.int .i64 i.a) ∧ w'.cell? ⟨n, 3, none⟩ = some (.int .i64 i.b) ∧ w'.cell? ⟨n, 4, none⟩ = some (.int .i64 i.imm) ∧ w'.cell? ⟨n, 5, none⟩ = some (.int .i64 i.csr) ∧ w'.cell? ⟨n, 6, none⟩ = some (.bool i.aq) ∧ w'.cell? ⟨n, 7, none⟩ = some (.bool i.rl)) (go_keep)
    ((go_at_call 54; refine (HWR.out _).mono ?_; rintro e w3 ⟨rfl, hb3⟩; have em := (hb3.cell (p := ⟨m, 1, none⟩) hm2).trans dm; have ef0 := (hb3.cell (p := ⟨m + 1, 0, none⟩) hm3).trans df0; have ef1 := (hb3.cell (p := ⟨m + 1, 1, none⟩) hm3).trans df1; have ef2 := (hb3.cell (p := ⟨m + 1, 2, none⟩) hm3).trans df2; have ef3 := (hb3.cell (p := ⟨m + 1, 3, none⟩) hm3).trans df3; have ef4 := (hb3.cell (p := ⟨m + 1, 4, none⟩) hm3).trans df4; have ef5 := (hb3.cell (p := ⟨m + 1, 5, none⟩) hm3).trans df5; have ef6 := (hb3.cell (p := ⟨m + 1, 6, none⟩) hm3).trans df6; have ei0 := (hb3.cell (p := ⟨n, 0, none⟩) hn2).trans di0; have ei1 := (hb3.cell (p := ⟨n, 1, none⟩) hn2).trans di1; have ei2 := (hb3.cell (p := ⟨n, 2, none⟩) hn2).trans di2; have ei3 := (hb3.cell (p := ⟨n, 3, none⟩) hn2).trans di3; have ei4 := (hb3.cell (p := ⟨n, 4, none⟩) hn2).trans di4; have ei5 := (hb3.cell (p := ⟨n, 5, none⟩) hn2).trans di5; have ei6 := (hb3.cell (p := ⟨n, 6, none⟩) hn2).trans di6; have ei7 := (hb3.cell (p := ⟨n, 7, none⟩) hn2).trans di7; have HB3 := Lib.hid (HB2.out.trans (((Below.refl _ _).drew.trans hb3).mono (Nat.le_of_lt hn2))); have km2 : m < w3.heap.size := Nat.lt_of_lt_of_le hm2 hb3.size; have km3 : m + 1 < w3.heap.size := Nat.lt_of_lt_of_le hm3 hb3.size; have kn2 : n < w3.heap.size := Nat.lt_of_lt_of_le hn2 hb3.size; clear hb3))
  rename (_ ∧ _) => hheld
  rw [HW.out]
  clear hheld dm df0 df1 df2 df3 df4 df5 df6 di0 di1 di2 di3 di4 di5 di6 di7
  go_wp2
  have hN := HN.out
  go_region_held3 (fun w' => w'.cell? ⟨m, 1, none⟩ = some (.int .u32 mt) ∧ w'.cell? ⟨m + 1, 0, none⟩ = some (.int .u32 (frm f).mask) ∧ w'.cell? ⟨m + 1, 1, none⟩ = some (.bool (frm f).rd) ∧ w'.cell? ⟨m + 1, 2, none⟩ = some (.bool (frm f).a) ∧ w'.cell? ⟨m + 1, 3, none⟩ = some (.bool (frm f).b) ∧ w'.cell? ⟨m + 1, 4, none⟩ = some (.int .i64 (frm f).imm) ∧ w'.cell? ⟨m + 1, 5, none⟩ = some (.bool (frm f).csr) ∧ w'.cell? ⟨m + 1, 6, none⟩ = some (.bool (frm f).ord) ∧ w'.cell? ⟨n, 0, none⟩ = some (.int .i64 i.op) ∧ w'.cell? ⟨n, 1, none⟩ = some (.int .i64 i.rd) ∧ w'.cell? ⟨n, 2, none⟩ = some (.int .i64 i.a) ∧ w'.cell? ⟨n, 3, none⟩ = some (.int .i64 i.b) ∧ w'.cell? ⟨n, 4, none⟩ = some (.int .i64 i.imm) ∧ w'.cell? ⟨n, 5, none⟩ = some (.int .i64 i.csr) ∧ w'.cell? ⟨n, 6, none⟩ = some (.bool i.aq) ∧ w'.cell? ⟨n, 7, none⟩ = some (.bool i.rl)) (go_keep)
    ((go_at_call 55; refine (HR.out _).mono ?_; rintro e w4 ⟨rfl, hb4⟩; have gm := (hb4.cell (p := ⟨m, 1, none⟩) km2).trans em; have gf0 := (hb4.cell (p := ⟨m + 1, 0, none⟩) km3).trans ef0; have gf1 := (hb4.cell (p := ⟨m + 1, 1, none⟩) km3).trans ef1; have gf2 := (hb4.cell (p := ⟨m + 1, 2, none⟩) km3).trans ef2; have gf3 := (hb4.cell (p := ⟨m + 1, 3, none⟩) km3).trans ef3; have gf4 := (hb4.cell (p := ⟨m + 1, 4, none⟩) km3).trans ef4; have gf5 := (hb4.cell (p := ⟨m + 1, 5, none⟩) km3).trans ef5; have gf6 := (hb4.cell (p := ⟨m + 1, 6, none⟩) km3).trans ef6; have gi0 := (hb4.cell (p := ⟨n, 0, none⟩) kn2).trans ei0; have gi1 := (hb4.cell (p := ⟨n, 1, none⟩) kn2).trans ei1; have gi2 := (hb4.cell (p := ⟨n, 2, none⟩) kn2).trans ei2; have gi3 := (hb4.cell (p := ⟨n, 3, none⟩) kn2).trans ei3; have gi4 := (hb4.cell (p := ⟨n, 4, none⟩) kn2).trans ei4; have gi5 := (hb4.cell (p := ⟨n, 5, none⟩) kn2).trans ei5; have gi6 := (hb4.cell (p := ⟨n, 6, none⟩) kn2).trans ei6; have gi7 := (hb4.cell (p := ⟨n, 7, none⟩) kn2).trans ei7; have HB4 := Lib.hid (HB3.out.trans (((Below.refl _ _).drew.trans hb4).mono (Nat.le_of_lt kn2))); clear hb4))
  go_wp2
  go_ret2
  exact ⟨rfl, by rw [HNN.out]; exact HB4.out⟩

set_option maxHeartbeats 4000000 in
theorem encode_false (k : Nat) (h1 : 1 ≤ k) (h2 : k ≤ 113) (i : Ins) (hk : i.op = k) (W : Int) (hW : wordI (matT k) (fT k) i = W) (hq : eqI (says (fT k) i.op W) i = false) (w : World) (ht : Tab w) :
    Calls Tryz.prog 21 #[.agg #[.int .i64 i.op, .int .i64 i.rd, .int .i64 i.a, .int .i64 i.b, .int .i64 i.imm, .int .i64 i.csr, .bool i.aq, .bool i.rl]] w fun e w' => e = .returned (.tuple #[.int .u32 0, .int .i64 80]) ∧ Below w.heap.size w w' := by
  have HT := Lib.hid ht
  have HF : Hid (∀ w, Calls Tryz.prog 53 #[.int .i64 i.op] w fun e w' => e = .returned (.tuple #[.agg #[.string (nameT k), .int .u32 (matT k), .int .u8 (frmT k)], .bool true]) ∧ Below w.heap.size w w') := Lib.hid fun w => by rw [hk]; exact dfind_any k h1 h2 w
  have hff := tab_form k (by omega) h1
  have HWR := Lib.hid fun w => write_any (frmT k) hff i w
  have HR := Lib.hid fun w => read_any (frmT k) hff i.op W w
  have HW : Hid (bits .or .u32 (matT k) (wF (frm (frmT k)) i) = W) := Lib.hid hW
  have HN := Lib.hid fun w => neq_ins (says (frm (frmT k)) i.op W) i w
  have HQ : Hid (eqI (says (frm (frmT k)) i.op W) i = false) := Lib.hid hq
  clear ht hq hW hk h1 h2
  rw [HQ.out] at HN
  generalize says (frm (frmT k)) i.op W = V at *
  generalize nameT k = nm at *
  generalize (matT k : Int) = mt at *
  generalize frmT k = f at *
  have HFF := Lib.hid hff
  have hf15 : (f : Int) < 15 := by omega
  have hf0 : (0 : Int) ≤ f := by omega
  clear hff
  go_enter Tryz.func21, Tryz.ntmps21
  go_wp2_with (go_at_call 53; (with_reducible refine (HF.out _).mono ?_); rintro e1 w1 ⟨rfl, hb1⟩; have HB1 : Hid (Below w.heap.size w w1) := Lib.hid (((Below.refl _ _).alloc (Nat.le_refl _) _).trans (hb1.mono (by simp))); have hs1 : w.heap.size < w1.heap.size := (by have := hb1.size; simp at this; omega); have HIR : Hid (w1.heap[w.heap.size]? = some (.cells #[.int .i64 i.op, .int .i64 i.rd, .int .i64 i.a, .int .i64 i.b, .int .i64 i.imm, .int .i64 i.csr, .bool i.aq, .bool i.rl] 23 (0, 0))) := Lib.hid ((hb1.block _ (by simp)).trans (heap_alloc_new w _)); obtain ⟨c0, c1, c2, c3, c4, c5, c6⟩ := forms_at (HT.out.below HB1.out) HFF.out; have hg0 : 0 < w1.heap.size := (HT.out.below HB1.out).lt; clear hb1)
  have HB2 : Hid (Below w.heap.size w ((w1.alloc (.cells #[.string nm, .int .u32 mt, .int .u8 f] 92)).alloc (.cells #[.int .u32 (frm f).mask, .bool (frm f).rd, .bool (frm f).a, .bool (frm f).b, .int .i64 (frm f).imm, .bool (frm f).csr, .bool (frm f).ord] 96))) := Lib.hid ((HB1.out.alloc (by omega) _).alloc (by rw [World.size_alloc]; omega) _)
  have hd : ((w1.alloc (.cells #[.string nm, .int .u32 mt, .int .u8 f] 92)).alloc (.cells #[.int .u32 (frm f).mask, .bool (frm f).rd, .bool (frm f).a, .bool (frm f).b, .int .i64 (frm f).imm, .bool (frm f).csr, .bool (frm f).ord] 96)).cell? ⟨w1.heap.size, 1, none⟩ = some (.int .u32 mt) ∧ ((w1.alloc (.cells #[.string nm, .int .u32 mt, .int .u8 f] 92)).alloc (.cells #[.int .u32 (frm f).mask, .bool (frm f).rd, .bool (frm f).a, .bool (frm f).b, .int .i64 (frm f).imm, .bool (frm f).csr, .bool (frm f).ord] 96)).cell? ⟨w1.heap.size + 1, 0, none⟩ = some (.int .u32 (frm f).mask) ∧ ((w1.alloc (.cells #[.string nm, .int .u32 mt, .int .u8 f] 92)).alloc (.cells #[.int .u32 (frm f).mask, .bool (frm f).rd, .bool (frm f).a, .bool (frm f).b, .int .i64 (frm f).imm, .bool (frm f).csr, .bool (frm f).ord] 96)).cell? ⟨w1.heap.size + 1, 1, none⟩ = some (.bool (frm f).rd) ∧ ((w1.alloc (.cells #[.string nm, .int .u32 mt, .int .u8 f] 92)).alloc (.cells #[.int .u32 (frm f).mask, .bool (frm f).rd, .bool (frm f).a, .bool (frm f).b, .int .i64 (frm f).imm, .bool (frm f).csr, .bool (frm f).ord] 96)).cell? ⟨w1.heap.size + 1, 2, none⟩ = some (.bool (frm f).a) ∧ ((w1.alloc (.cells #[.string nm, .int .u32 mt, .int .u8 f] 92)).alloc (.cells #[.int .u32 (frm f).mask, .bool (frm f).rd, .bool (frm f).a, .bool (frm f).b, .int .i64 (frm f).imm, .bool (frm f).csr, .bool (frm f).ord] 96)).cell? ⟨w1.heap.size + 1, 3, none⟩ = some (.bool (frm f).b) ∧ ((w1.alloc (.cells #[.string nm, .int .u32 mt, .int .u8 f] 92)).alloc (.cells #[.int .u32 (frm f).mask, .bool (frm f).rd, .bool (frm f).a, .bool (frm f).b, .int .i64 (frm f).imm, .bool (frm f).csr, .bool (frm f).ord] 96)).cell? ⟨w1.heap.size + 1, 4, none⟩ = some (.int .i64 (frm f).imm) ∧ ((w1.alloc (.cells #[.string nm, .int .u32 mt, .int .u8 f] 92)).alloc (.cells #[.int .u32 (frm f).mask, .bool (frm f).rd, .bool (frm f).a, .bool (frm f).b, .int .i64 (frm f).imm, .bool (frm f).csr, .bool (frm f).ord] 96)).cell? ⟨w1.heap.size + 1, 5, none⟩ = some (.bool (frm f).csr) ∧ ((w1.alloc (.cells #[.string nm, .int .u32 mt, .int .u8 f] 92)).alloc (.cells #[.int .u32 (frm f).mask, .bool (frm f).rd, .bool (frm f).a, .bool (frm f).b, .int .i64 (frm f).imm, .bool (frm f).csr, .bool (frm f).ord] 96)).cell? ⟨w1.heap.size + 1, 6, none⟩ = some (.bool (frm f).ord) ∧ ((w1.alloc (.cells #[.string nm, .int .u32 mt, .int .u8 f] 92)).alloc (.cells #[.int .u32 (frm f).mask, .bool (frm f).rd, .bool (frm f).a, .bool (frm f).b, .int .i64 (frm f).imm, .bool (frm f).csr, .bool (frm f).ord] 96)).cell? ⟨w.heap.size, 0, none⟩ = some (.int .i64 i.op) ∧ ((w1.alloc (.cells #[.string nm, .int .u32 mt, .int .u8 f] 92)).alloc (.cells #[.int .u32 (frm f).mask, .bool (frm f).rd, .bool (frm f).a, .bool (frm f).b, .int .i64 (frm f).imm, .bool (frm f).csr, .bool (frm f).ord] 96)).cell? ⟨w.heap.size, 1, none⟩ = some (.int .i64 i.rd) ∧ ((w1.alloc (.cells #[.string nm, .int .u32 mt, .int .u8 f] 92)).alloc (.cells #[.int .u32 (frm f).mask, .bool (frm f).rd, .bool (frm f).a, .bool (frm f).b, .int .i64 (frm f).imm, .bool (frm f).csr, .bool (frm f).ord] 96)).cell? ⟨w.heap.size, 2, none⟩ = some (.int .i64 i.a) ∧ ((w1.alloc (.cells #[.string nm, .int .u32 mt, .int .u8 f] 92)).alloc (.cells #[.int .u32 (frm f).mask, .bool (frm f).rd, .bool (frm f).a, .bool (frm f).b, .int .i64 (frm f).imm, .bool (frm f).csr, .bool (frm f).ord] 96)).cell? ⟨w.heap.size, 3, none⟩ = some (.int .i64 i.b) ∧ ((w1.alloc (.cells #[.string nm, .int .u32 mt, .int .u8 f] 92)).alloc (.cells #[.int .u32 (frm f).mask, .bool (frm f).rd, .bool (frm f).a, .bool (frm f).b, .int .i64 (frm f).imm, .bool (frm f).csr, .bool (frm f).ord] 96)).cell? ⟨w.heap.size, 4, none⟩ = some (.int .i64 i.imm) ∧ ((w1.alloc (.cells #[.string nm, .int .u32 mt, .int .u8 f] 92)).alloc (.cells #[.int .u32 (frm f).mask, .bool (frm f).rd, .bool (frm f).a, .bool (frm f).b, .int .i64 (frm f).imm, .bool (frm f).csr, .bool (frm f).ord] 96)).cell? ⟨w.heap.size, 5, none⟩ = some (.int .i64 i.csr) ∧ ((w1.alloc (.cells #[.string nm, .int .u32 mt, .int .u8 f] 92)).alloc (.cells #[.int .u32 (frm f).mask, .bool (frm f).rd, .bool (frm f).a, .bool (frm f).b, .int .i64 (frm f).imm, .bool (frm f).csr, .bool (frm f).ord] 96)).cell? ⟨w.heap.size, 6, none⟩ = some (.bool i.aq) ∧ ((w1.alloc (.cells #[.string nm, .int .u32 mt, .int .u8 f] 92)).alloc (.cells #[.int .u32 (frm f).mask, .bool (frm f).rd, .bool (frm f).a, .bool (frm f).b, .int .i64 (frm f).imm, .bool (frm f).csr, .bool (frm f).ord] 96)).cell? ⟨w.heap.size, 7, none⟩ = some (.bool i.rl) := by
    have r1 : ((w1.alloc (.cells #[.string nm, .int .u32 mt, .int .u8 f] 92)).alloc (.cells #[.int .u32 (frm f).mask, .bool (frm f).rd, .bool (frm f).a, .bool (frm f).b, .int .i64 (frm f).imm, .bool (frm f).csr, .bool (frm f).ord] 96)).heap[w1.heap.size]? = some (.cells #[.string nm, .int .u32 mt, .int .u8 f] 92 (0, 0)) := by
      rw [Below.heap_alloc _ _ _ (by rw [World.size_alloc]; omega)]; exact heap_alloc_new w1 _
    have r2 : ((w1.alloc (.cells #[.string nm, .int .u32 mt, .int .u8 f] 92)).alloc (.cells #[.int .u32 (frm f).mask, .bool (frm f).rd, .bool (frm f).a, .bool (frm f).b, .int .i64 (frm f).imm, .bool (frm f).csr, .bool (frm f).ord] 96)).heap[w1.heap.size + 1]? = some (.cells #[.int .u32 (frm f).mask, .bool (frm f).rd, .bool (frm f).a, .bool (frm f).b, .int .i64 (frm f).imm, .bool (frm f).csr, .bool (frm f).ord] 96 (0, 0)) := by
      rw [← World.size_alloc w1 (.cells #[.string nm, .int .u32 mt, .int .u8 f] 92)]; exact heap_alloc_new _ _
    have r3 : ((w1.alloc (.cells #[.string nm, .int .u32 mt, .int .u8 f] 92)).alloc (.cells #[.int .u32 (frm f).mask, .bool (frm f).rd, .bool (frm f).a, .bool (frm f).b, .int .i64 (frm f).imm, .bool (frm f).csr, .bool (frm f).ord] 96)).heap[w.heap.size]? = some (.cells #[.int .i64 i.op, .int .i64 i.rd, .int .i64 i.a, .int .i64 i.b, .int .i64 i.imm, .int .i64 i.csr, .bool i.aq, .bool i.rl] 23 (0, 0)) := by
      rw [Below.heap_alloc _ _ _ (by rw [World.size_alloc]; omega), Below.heap_alloc _ _ _ hs1]; exact HIR.out
    exact ⟨cell_of_row _ _ _ _ _ _ r1, cell_of_row _ _ _ _ _ _ r2, cell_of_row _ _ _ _ _ _ r2, cell_of_row _ _ _ _ _ _ r2, cell_of_row _ _ _ _ _ _ r2, cell_of_row _ _ _ _ _ _ r2, cell_of_row _ _ _ _ _ _ r2, cell_of_row _ _ _ _ _ _ r2, cell_of_row _ _ _ _ _ _ r3, cell_of_row _ _ _ _ _ _ r3, cell_of_row _ _ _ _ _ _ r3, cell_of_row _ _ _ _ _ _ r3, cell_of_row _ _ _ _ _ _ r3, cell_of_row _ _ _ _ _ _ r3, cell_of_row _ _ _ _ _ _ r3, cell_of_row _ _ _ _ _ _ r3⟩
  obtain ⟨dm, df0, df1, df2, df3, df4, df5, df6, di0, di1, di2, di3, di4, di5, di6, di7⟩ := hd
  have hm2 : w1.heap.size < ((w1.alloc (.cells #[.string nm, .int .u32 mt, .int .u8 f] 92)).alloc (.cells #[.int .u32 (frm f).mask, .bool (frm f).rd, .bool (frm f).a, .bool (frm f).b, .int .i64 (frm f).imm, .bool (frm f).csr, .bool (frm f).ord] 96)).heap.size := by rw [World.size_alloc, World.size_alloc]; omega
  have hm3 : w1.heap.size + 1 < ((w1.alloc (.cells #[.string nm, .int .u32 mt, .int .u8 f] 92)).alloc (.cells #[.int .u32 (frm f).mask, .bool (frm f).rd, .bool (frm f).a, .bool (frm f).b, .int .i64 (frm f).imm, .bool (frm f).csr, .bool (frm f).ord] 96)).heap.size := by rw [World.size_alloc, World.size_alloc]; omega
  have hn2 : w.heap.size < ((w1.alloc (.cells #[.string nm, .int .u32 mt, .int .u8 f] 92)).alloc (.cells #[.int .u32 (frm f).mask, .bool (frm f).rd, .bool (frm f).a, .bool (frm f).b, .int .i64 (frm f).imm, .bool (frm f).csr, .bool (frm f).ord] 96)).heap.size := by rw [World.size_alloc, World.size_alloc]; omega
  clear c0 c1 c2 c3 c4 c5 c6 hg0 HIR hs1 HB1
  generalize hw2 : ((w1.alloc (.cells #[.string nm, .int .u32 mt, .int .u8 f] 92)).alloc (.cells #[.int .u32 (frm f).mask, .bool (frm f).rd, .bool (frm f).a, .bool (frm f).b, .int .i64 (frm f).imm, .bool (frm f).csr, .bool (frm f).ord] 96)) = w2 at *
  clear hw2
  generalize hm : w1.heap.size = m at *
  generalize hn : w.heap.size = n at *
  have HNN := Lib.hid hn
  clear hm hn
  go_region_held3 (fun w' => w'.cell? ⟨m, 1, none⟩ = some (.int .u32 mt) ∧ w'.cell? ⟨m + 1, 0, none⟩ = some (.int .u32 (frm f).mask) ∧ w'.cell? ⟨m + 1, 1, none⟩ = some (.bool (frm f).rd) ∧ w'.cell? ⟨m + 1, 2, none⟩ = some (.bool (frm f).a) ∧ w'.cell? ⟨m + 1, 3, none⟩ = some (.bool (frm f).b) ∧ w'.cell? ⟨m + 1, 4, none⟩ = some (.int .i64 (frm f).imm) ∧ w'.cell? ⟨m + 1, 5, none⟩ = some (.bool (frm f).csr) ∧ w'.cell? ⟨m + 1, 6, none⟩ = some (.bool (frm f).ord) ∧ w'.cell? ⟨n, 0, none⟩ = some (.int .i64 i.op) ∧ w'.cell? ⟨n, 1, none⟩ = some (.int .i64 i.rd) ∧ w'.cell? ⟨n, 2, none⟩ = some (.int .i64 i.a) ∧ w'.cell? ⟨n, 3, none⟩ = some (.int .i64 i.b) ∧ w'.cell? ⟨n, 4, none⟩ = some (.int .i64 i.imm) ∧ w'.cell? ⟨n, 5, none⟩ = some (.int .i64 i.csr) ∧ w'.cell? ⟨n, 6, none⟩ = some (.bool i.aq) ∧ w'.cell? ⟨n, 7, none⟩ = some (.bool i.rl)) (go_keep)
    ((go_at_call 54; refine (HWR.out _).mono ?_; rintro e w3 ⟨rfl, hb3⟩; have em := (hb3.cell (p := ⟨m, 1, none⟩) hm2).trans dm; have ef0 := (hb3.cell (p := ⟨m + 1, 0, none⟩) hm3).trans df0; have ef1 := (hb3.cell (p := ⟨m + 1, 1, none⟩) hm3).trans df1; have ef2 := (hb3.cell (p := ⟨m + 1, 2, none⟩) hm3).trans df2; have ef3 := (hb3.cell (p := ⟨m + 1, 3, none⟩) hm3).trans df3; have ef4 := (hb3.cell (p := ⟨m + 1, 4, none⟩) hm3).trans df4; have ef5 := (hb3.cell (p := ⟨m + 1, 5, none⟩) hm3).trans df5; have ef6 := (hb3.cell (p := ⟨m + 1, 6, none⟩) hm3).trans df6; have ei0 := (hb3.cell (p := ⟨n, 0, none⟩) hn2).trans di0; have ei1 := (hb3.cell (p := ⟨n, 1, none⟩) hn2).trans di1; have ei2 := (hb3.cell (p := ⟨n, 2, none⟩) hn2).trans di2; have ei3 := (hb3.cell (p := ⟨n, 3, none⟩) hn2).trans di3; have ei4 := (hb3.cell (p := ⟨n, 4, none⟩) hn2).trans di4; have ei5 := (hb3.cell (p := ⟨n, 5, none⟩) hn2).trans di5; have ei6 := (hb3.cell (p := ⟨n, 6, none⟩) hn2).trans di6; have ei7 := (hb3.cell (p := ⟨n, 7, none⟩) hn2).trans di7; have HB3 := Lib.hid (HB2.out.trans (((Below.refl _ _).drew.trans hb3).mono (Nat.le_of_lt hn2))); have km2 : m < w3.heap.size := Nat.lt_of_lt_of_le hm2 hb3.size; have km3 : m + 1 < w3.heap.size := Nat.lt_of_lt_of_le hm3 hb3.size; have kn2 : n < w3.heap.size := Nat.lt_of_lt_of_le hn2 hb3.size; clear hb3))
  rename (_ ∧ _) => hheld
  rw [HW.out]
  clear hheld dm df0 df1 df2 df3 df4 df5 df6 di0 di1 di2 di3 di4 di5 di6 di7
  go_wp2
  have hN := HN.out
  go_region_held3 (fun w' => w'.cell? ⟨m, 1, none⟩ = some (.int .u32 mt) ∧ w'.cell? ⟨m + 1, 0, none⟩ = some (.int .u32 (frm f).mask) ∧ w'.cell? ⟨m + 1, 1, none⟩ = some (.bool (frm f).rd) ∧ w'.cell? ⟨m + 1, 2, none⟩ = some (.bool (frm f).a) ∧ w'.cell? ⟨m + 1, 3, none⟩ = some (.bool (frm f).b) ∧ w'.cell? ⟨m + 1, 4, none⟩ = some (.int .i64 (frm f).imm) ∧ w'.cell? ⟨m + 1, 5, none⟩ = some (.bool (frm f).csr) ∧ w'.cell? ⟨m + 1, 6, none⟩ = some (.bool (frm f).ord) ∧ w'.cell? ⟨n, 0, none⟩ = some (.int .i64 i.op) ∧ w'.cell? ⟨n, 1, none⟩ = some (.int .i64 i.rd) ∧ w'.cell? ⟨n, 2, none⟩ = some (.int .i64 i.a) ∧ w'.cell? ⟨n, 3, none⟩ = some (.int .i64 i.b) ∧ w'.cell? ⟨n, 4, none⟩ = some (.int .i64 i.imm) ∧ w'.cell? ⟨n, 5, none⟩ = some (.int .i64 i.csr) ∧ w'.cell? ⟨n, 6, none⟩ = some (.bool i.aq) ∧ w'.cell? ⟨n, 7, none⟩ = some (.bool i.rl)) (go_keep)
    ((go_at_call 55; refine (HR.out _).mono ?_; rintro e w4 ⟨rfl, hb4⟩; have gm := (hb4.cell (p := ⟨m, 1, none⟩) km2).trans em; have gf0 := (hb4.cell (p := ⟨m + 1, 0, none⟩) km3).trans ef0; have gf1 := (hb4.cell (p := ⟨m + 1, 1, none⟩) km3).trans ef1; have gf2 := (hb4.cell (p := ⟨m + 1, 2, none⟩) km3).trans ef2; have gf3 := (hb4.cell (p := ⟨m + 1, 3, none⟩) km3).trans ef3; have gf4 := (hb4.cell (p := ⟨m + 1, 4, none⟩) km3).trans ef4; have gf5 := (hb4.cell (p := ⟨m + 1, 5, none⟩) km3).trans ef5; have gf6 := (hb4.cell (p := ⟨m + 1, 6, none⟩) km3).trans ef6; have gi0 := (hb4.cell (p := ⟨n, 0, none⟩) kn2).trans ei0; have gi1 := (hb4.cell (p := ⟨n, 1, none⟩) kn2).trans ei1; have gi2 := (hb4.cell (p := ⟨n, 2, none⟩) kn2).trans ei2; have gi3 := (hb4.cell (p := ⟨n, 3, none⟩) kn2).trans ei3; have gi4 := (hb4.cell (p := ⟨n, 4, none⟩) kn2).trans ei4; have gi5 := (hb4.cell (p := ⟨n, 5, none⟩) kn2).trans ei5; have gi6 := (hb4.cell (p := ⟨n, 6, none⟩) kn2).trans ei6; have gi7 := (hb4.cell (p := ⟨n, 7, none⟩) kn2).trans ei7; have HB4 := Lib.hid (HB3.out.trans (((Below.refl _ _).drew.trans hb4).mono (Nat.le_of_lt kn2))); clear hb4))
  go_wp2
  go_ret2
  exact ⟨rfl, by rw [HNN.out]; exact HB4.out⟩

end Go.Proofs.YtakdhdaoklcidaaGreatDoor

namespace Go.Proofs.YtakdhdaoklcidaaGreatDoor
open Go.RowKit
set_option linter.unusedVariables false
set_option maxRecDepth 100000

theorem encode_is (i : Ins) (w : World) (ht : Tab w) :
    Calls Tryz.prog 21 #[.agg #[.int .i64 i.op, .int .i64 i.rd, .int .i64 i.a, .int .i64 i.b, .int .i64 i.imm, .int .i64 i.csr, .bool i.aq, .bool i.rl]] w fun e w' => e = .returned (.tuple #[.int .u32 (encW i), .int .i64 (encE i)]) ∧ Below w.heap.size w w' := by
  unfold encW encE
  cases h : rightB i
  · show Calls Tryz.prog 21 _ w fun e w' => e = .returned (.tuple #[.int .u32 0, .int .i64 80]) ∧ _
    by_cases c : 1 ≤ i.op ∧ i.op ≤ 113
    · have e : i.op = (i.op.toNat : Int) := by omega
      refine encode_false i.op.toNat (by omega) (by omega) i e _ rfl ?_ w ht
      cases hq : eqI (says (fT i.op.toNat) i.op (wordI (matT i.op.toNat) (fT i.op.toNat) i)) i
      · rfl
      · unfold rightB at h
        rw [decide_eq_true c, hq] at h; cases h
    · exact encode_none i c w
  · obtain ⟨h1, h2, h3, h4⟩ := rightT_of h
    show Calls Tryz.prog 21 _ w fun e w' => e = .returned (.tuple #[.int .u32 (wordI (matT i.op.toNat) (fT i.op.toNat) i), .int .i64 0]) ∧ _
    exact encode_true i.op.toNat h1 h2 i h3 _ rfl ((eqI_iff _ _).2 ((right_iff h1 (by omega) i).2 h4)) w ht

end Go.Proofs.YtakdhdaoklcidaaGreatDoor

namespace Go.Proofs.YtakdhdaoklcidaaGreatDoor
open Go.RowKit
set_option linter.unusedVariables false
set_option maxRecDepth 100000

def nameF (op : Int) : ByteArray := if 1 ≤ op ∧ op ≤ 113 then nameT op.toNat else ⟨#[]⟩

def opF (s : ByteArray) : Nat := ((List.range 114).find? fun j => decide (1 ≤ j) && sameT j s).getD 0

theorem sameT_nameL {j k : Nat} {s : ByteArray} (a : sameT j s = true) (b : sameT k s = true) : nameL.getD j [] = nameL.getD k [] := by
  unfold sameT at a b
  have e : (nameT j).toList = (nameT k).toList := (beq_iff_eq.1 a).trans (beq_iff_eq.1 b).symm
  rw [ByteArray.toList_eq, ByteArray.toList_eq] at e
  simpa [nameT] using e

theorem sameT_uniq {j k : Nat} {s : ByteArray} (hj : j < 114) (hk : k < 114) (a : sameT j s = true) (b : sameT k s = true) : j = k := by
  have e := sameT_nameL a b
  rcases Nat.lt_trichotomy j k with h | h | h
  · exact absurd e (name_apart j hj k hk h)
  · exact h
  · exact absurd e.symm (name_apart k hk j hj h)

theorem opF_at {k : Nat} {s : ByteArray} (h1 : 1 ≤ k) (h2 : k ≤ 113) (h : sameT k s = true) : opF s = k := by
  unfold opF
  cases e : (List.range 114).find? fun j => decide (1 ≤ j) && sameT j s with
  | none =>
    have := (List.find?_eq_none.1 e) k (List.mem_range.2 (by omega))
    rw [decide_eq_true h1, h] at this
    simp at this
  | some j =>
    have hj := List.find?_some e
    have hm := List.mem_range.1 (List.mem_of_find?_eq_some e)
    rw [Bool.and_eq_true, decide_eq_true_eq] at hj
    exact sameT_uniq hm (by omega) hj.2 h

theorem opF_is {s : ByteArray} (h : ¬ opF s = 0) : 1 ≤ opF s ∧ opF s ≤ 113 ∧ sameT (opF s) s = true := by
  cases e : (List.range 114).find? fun j => decide (1 ≤ j) && sameT j s with
  | none => exact absurd (by unfold opF; rw [e]; rfl) h
  | some j =>
    have hj := List.find?_some e
    have hm := List.mem_range.1 (List.mem_of_find?_eq_some e)
    rw [Bool.and_eq_true, decide_eq_true_eq] at hj
    have : opF s = j := by unfold opF; rw [e]; rfl
    rw [this]; exact ⟨hj.1, by omega, hj.2⟩

theorem opF_none {s : ByteArray} (h : opF s = 0) (j : Nat) (h1 : 1 ≤ j) (h2 : j ≤ 113) : sameT j s = false := by
  cases e : sameT j s
  · rfl
  · rw [opF_at h1 h2 e] at h; omega

theorem first_no {s : ByteArray} (h : ¬ opF s = 0) (j : Nat) (h1 : 1 ≤ j) (h2 : j < opF s) : sameT j s = false := by
  obtain ⟨a, b, c⟩ := opF_is h
  cases e : sameT j s
  · rfl
  · have := sameT_uniq (by omega) (by omega) e c; omega

theorem op_is (s : ByteArray) (w : World) : Calls Tryz.prog 37 #[.string s] w fun e w' => e = .returned (.int .i64 (opF s)) ∧ Below w.heap.size w w' := by
  by_cases c : opF s = 0
  · rw [c]; exact op_no s (fun j a b => opF_none c j a b) w
  · obtain ⟨a, b, d⟩ := opF_is c
    exact op_yes (opF s) a b s d (fun j x y => first_no c j x y) w

end Go.Proofs.YtakdhdaoklcidaaGreatDoor

namespace Go.Proofs.YtakdhdaoklcidaaGreatDoor
open Go.RowKit Go.Lib
set_option linter.unusedVariables false
set_option maxRecDepth 100000

theorem unmark_any (l : Bs) (w : World) (hs : l.length ≤ 1000000) : Calls Tryz.prog 36 #[str l] w fun e w' => e = .returned (.tuple #[str (unmark l).1, .bool (unmark l).2.1, .bool (unmark l).2.2]) ∧ w = w' := by
  have S1 : ∀ w, Calls Tryz.prog 69 #[str l, .string ⟨#[46, 97, 113, 114, 108]⟩] w fun e w' => e = .returned (.tuple #[str (trimSuffix l aqrlT), .bool (hasSuffix l aqrlT)]) ∧ w = w' := fun w => sufP l aqrlT w hs
  have S2 : ∀ w, Calls Tryz.prog 69 #[str l, .string ⟨#[46, 97, 113]⟩] w fun e w' => e = .returned (.tuple #[str (trimSuffix l aqT), .bool (hasSuffix l aqT)]) ∧ w = w' := fun w => sufP l aqT w hs
  have S3 : ∀ w, Calls Tryz.prog 69 #[str l, .string ⟨#[46, 114, 108]⟩] w fun e w' => e = .returned (.tuple #[str (trimSuffix l rlT), .bool (hasSuffix l rlT)]) ∧ w = w' := fun w => sufP l rlT w hs
  have H1 := Lib.hid S1
  have H2 := Lib.hid S2
  have H3 := Lib.hid S3
  clear S1 S2 S3 hs
  unfold unmark
  cases h1 : hasSuffix l aqrlT
  · cases h2 : hasSuffix l aqT
    · simp only [Bool.false_eq_true, if_false]
      have G1 := Lib.hid (fun w => h1 ▸ H1.out w)
      have G2 := Lib.hid (fun w => h2 ▸ H2.out w)
      clear h1 h2 H1 H2
      go_enter Tryz.func36, Tryz.ntmps36
      go_wp2_with (fail)
      (with_reducible refine (G1.out _).mono ?_)
      rintro e w1 ⟨rfl, rfl⟩
      go_wp2_with (fail)
      (with_reducible refine (G2.out _).mono ?_)
      rintro e w1 ⟨rfl, rfl⟩
      go_wp2_with (fail)
      (with_reducible refine (H3.out _).mono ?_)
      rintro e w1 ⟨rfl, rfl⟩
      go_wp2
      go_ret3
      exact ⟨rfl, rfl⟩
    · simp only [Bool.false_eq_true, if_false, if_true]
      have G1 := Lib.hid (fun w => h1 ▸ H1.out w)
      have G2 := Lib.hid (fun w => h2 ▸ H2.out w)
      clear h1 h2 H1 H2
      go_enter Tryz.func36, Tryz.ntmps36
      go_wp2_with (fail)
      (with_reducible refine (G1.out _).mono ?_)
      rintro e w1 ⟨rfl, rfl⟩
      go_wp2_with (fail)
      (with_reducible refine (G2.out _).mono ?_)
      rintro e w1 ⟨rfl, rfl⟩
      go_wp2
      go_ret3
      exact ⟨rfl, rfl⟩
  · simp only [if_true]
    have G1 := Lib.hid (fun w => h1 ▸ H1.out w)
    clear h1 H1
    go_enter Tryz.func36, Tryz.ntmps36
    go_wp2_with (fail)
    (with_reducible refine (G1.out _).mono ?_)
    rintro e w1 ⟨rfl, rfl⟩
    go_wp2
    go_ret3
    exact ⟨rfl, rfl⟩

/-- The instruction of a trial. -/
def withOp (i : Ins) (op : Int) : Ins := ⟨op, i.rd, i.a, i.b, i.imm, i.csr, i.aq, i.rl⟩
theorem says1_any (i : Ins) (op : Int) (b : Nat) (q : Bool) (hq : (encE (withOp i op) == 0) = q) (w : World) (he : Env w) (hc : w.cell? ⟨b, 0, none⟩ = some (.int .i64 op)) :
    Calls Tryz.prog 56 #[insV i, .pointer (some ⟨b, 0, none⟩)] w fun e w' => e = .returned (.bool q) ∧ Below w.heap.size w w' := by
  have hE : ∀ w, Env w → Calls Tryz.prog 21 #[insV (withOp i op)] w fun e w' => e = .returned (.tuple #[.int .u32 (encW (withOp i op)), .int .i64 (encE (withOp i op))]) ∧ Below w.heap.size w w' := fun w he => encode_is _ w he.tab
  have HE := Lib.hid hE
  have HV := Lib.hid he
  subst hq
  clear hE he
  obtain ⟨o, rd, a, bb, imm, csr, aq, rl⟩ := i
  unfold withOp at *
  generalize encW (⟨op, rd, a, bb, imm, csr, aq, rl⟩ : Ins) = W at *
  generalize encE (⟨op, rd, a, bb, imm, csr, aq, rl⟩ : Ins) = E at *
  have hb : b < w.heap.size := World.block_lt_of_cell? _ _ hc
  go_enter Tryz.func56, Tryz.ntmps56
  go_wp2_with (fail)
  (with_reducible refine (HE.out _ (HV.out.below ((Below.refl _ _).alloc (Nat.le_refl _) _))).mono ?_)
  rintro e w1 ⟨rfl, hb1⟩
  have HB := Lib.hid (((Below.refl _ _).alloc (Nat.le_refl _) (.cells #[.int .i64 op, .int .i64 rd, .int .i64 a, .int .i64 bb, .int .i64 imm, .int .i64 csr, .bool aq, .bool rl] 23)).trans (hb1.mono (by simp)))
  clear hb1 hc hb
  go_wp2
  go_ret
  exact ⟨rfl, HB.out⟩

/-- A text in a block of its own. -/
abbrev BoxS (w : World) (b : Nat) (l : Bs) : Prop := w.heap[b]? = some (.cells #[str l] 9 (0, 0))
theorem boxS_set {w : World} {b : Nat} {l : Bs} (h : BoxS w b l) (r : Bs) : BoxS (w.setCell ⟨b, 0, none⟩ (str r)) b r := by
  unfold BoxS
  simp [World.setCell, Array.getElem?_modify, h]
theorem boxS_keep {w w' : World} {b : Nat} {l : Bs} (h : BoxS w b l) (hb : Below w.heap.size w w') : BoxS w' b l := (hb.block b (Array.getElem?_eq_some_iff.1 h).1).trans h

/-- What is left to read is cut; only its block turns. -/
theorem next_any (bl : Nat) (rest : Bs) (w : World) (he : Env w) (hs : rest.length ≤ 1000000) (hc : BoxS w bl rest) :
    Calls Tryz.prog 63 #[.pointer (some ⟨bl, 0, none⟩)] w fun e w' => e = .returned (str (cut rest sepC).1) ∧ BoxS w' bl (cut rest sepC).2.1 ∧ Only (fun i => i = bl) w w' := by
  have hE : ∀ w, Env w → Calls Tryz.prog 34 #[str rest, .string ⟨#[44, 32]⟩] w fun e w' => e = .returned (.tuple #[str (cut rest sepC).1, str (cut rest sepC).2.1, .bool (cut rest sepC).2.2]) ∧ Below w.heap.size w w' := fun w he => cutP rest sepC w hs he
  have HE := Lib.hid hE
  have HV := Lib.hid he
  have HC := Lib.hid hc
  clear hE he hs
  have h0 : w.cell? ⟨bl, 0, none⟩ = some (str rest) := by rw [Lib.cell_of_heap hc]; rfl
  clear hc
  generalize (cut rest sepC).1 = o at *
  generalize (cut rest sepC).2.1 = r at *
  generalize (cut rest sepC).2.2 = q at *
  go_enter Tryz.func63, Tryz.ntmps63
  go_wp2_with (fail)
  (with_reducible refine (HE.out _ HV.out).mono ?_)
  rintro e w1 ⟨rfl, hb1⟩
  have HC1 := Lib.hid (boxS_keep HC.out hb1)
  have h1 : w1.cell? ⟨bl, 0, none⟩ = some (str rest) := by rw [Lib.cell_of_heap HC1.out]; rfl
  have h2 : w1.frozen? ⟨bl, 0, none⟩ = false := Lib.frozen_of_heap HC1.out 0
  have HB := Lib.hid hb1
  clear hb1 h0
  go_wp2
  go_ret
  exact ⟨rfl, boxS_set HC1.out r, (Only.of_below (fun i => i = bl) HB.out).setCell (p := ⟨bl, 0, none⟩) (.inl rfl) _⟩

/-- A closure's block that holds the one that cuts. -/
abbrev nextV (bl : Nat) : Value := .func (.func 63) #[] #[.pointer (some ⟨bl, 0, none⟩)]
theorem reg_any (bn bl : Nat) (rest : Bs) (w : World) (he : ∀ w', Only (fun i => i = bl) w w' → Env w') (hs : rest.length ≤ 1000000) (hn : w.cell? ⟨bn, 0, none⟩ = some (nextV bl)) (hc : BoxS w bl rest) :
    Calls Tryz.prog 64 #[.pointer (some ⟨bn, 0, none⟩)] w fun e w' => e = .returned (.int .i64 (regP (cut rest sepC).1)) ∧ BoxS w' bl (cut rest sepC).2.1 ∧ Only (fun i => i = bl) w w' := by
  have HN := Lib.hid (next_any bl rest w (he w (Only.refl _ _)) hs hc)
  have hl : (cut rest sepC).1.length ≤ 1000000 := Nat.le_trans (cut_len rest sepC).1 hs
  have hT : ∀ w, Calls Tryz.prog 66 #[str (cut rest sepC).1, .string ⟨#[120]⟩] w fun e w' => e = .returned (str (trimPrefix (cut rest sepC).1 [120])) ∧ w = w' := fun w => preP _ [120] w
  have hA : ∀ w, Env w → Calls Tryz.prog 65 #[str (trimPrefix (cut rest sepC).1 [120])] w fun e w' => ∃ v, e = .returned (.tuple #[.int .i64 (regP (cut rest sepC).1), v]) ∧ Below w.heap.size w w' := fun w he => atoi_some _ w (Nat.le_trans (trimPrefix_le _ _) hl) he
  have HT := Lib.hid hT
  have HA := Lib.hid hA
  have HE := Lib.hid he
  clear hT hA he hs hl hc
  generalize regP (cut rest sepC).1 = n at *
  generalize trimPrefix (cut rest sepC).1 [120] = t at *
  generalize (cut rest sepC).1 = o at *
  generalize (cut rest sepC).2.1 = r at *
  go_enter Tryz.func64, Tryz.ntmps64
  go_wp2_with (fail)
  (with_reducible refine HN.out.mono ?_)
  rintro e w1 ⟨rfl, hc1, ho1⟩
  have HC := Lib.hid hc1
  have HO := Lib.hid ho1
  clear hc1 ho1
  go_wp2_with (fail)
  (with_reducible refine (HT.out _).mono ?_)
  rintro e w2 ⟨rfl, rfl⟩
  go_wp2_with (fail)
  (with_reducible refine (HA.out _ (HE.out _ HO.out)).mono ?_)
  rintro e w2 ⟨v, rfl, hb2⟩
  have HC2 := Lib.hid (boxS_keep HC.out hb2)
  have HO2 := Lib.hid (HO.out.thenBelow hb2)
  clear hb2
  go_wp2
  go_ret
  exact ⟨rfl, HC2.out, HO2.out⟩

theorem num_any (bn bl : Nat) (rest : Bs) (w : World) (he : ∀ w', Only (fun i => i = bl) w w' → Env w') (hs : rest.length ≤ 1000000) (hn : w.cell? ⟨bn, 0, none⟩ = some (nextV bl)) (hc : BoxS w bl rest) :
    Calls Tryz.prog 67 #[.pointer (some ⟨bn, 0, none⟩)] w fun e w' => e = .returned (.int .i64 (numP (cut rest sepC).1)) ∧ BoxS w' bl (cut rest sepC).2.1 ∧ Only (fun i => i = bl) w w' := by
  have HN := Lib.hid (next_any bl rest w (he w (Only.refl _ _)) hs hc)
  have hl : (cut rest sepC).1.length ≤ 1000000 := Nat.le_trans (cut_len rest sepC).1 hs
  have hA : ∀ w, Env w → Calls Tryz.prog 68 #[str (cut rest sepC).1, .int .i64 10, .int .i64 64] w fun e w' => ∃ v, e = .returned (.tuple #[.int .i64 (numP (cut rest sepC).1), v]) ∧ Below w.heap.size w w' := fun w he => pint_some _ w hl he
  have HA := Lib.hid hA
  have HE := Lib.hid he
  clear hA he hs hl hc
  generalize numP (cut rest sepC).1 = n at *
  generalize (cut rest sepC).1 = o at *
  generalize (cut rest sepC).2.1 = r at *
  go_enter Tryz.func67, Tryz.ntmps67
  go_wp2_with (fail)
  (with_reducible refine HN.out.mono ?_)
  rintro e w1 ⟨rfl, hc1, ho1⟩
  have HC := Lib.hid hc1
  have HO := Lib.hid ho1
  clear hc1 ho1
  go_wp2_with (fail)
  (with_reducible refine (HA.out _ (HE.out _ HO.out)).mono ?_)
  rintro e w2 ⟨v, rfl, hb2⟩
  have HC2 := Lib.hid (boxS_keep HC.out hb2)
  have HO2 := Lib.hid (HO.out.thenBelow hb2)
  clear hb2
  go_wp2
  go_ret
  exact ⟨rfl, HC2.out, HO2.out⟩

/-- A reader: two closures over one that cuts. -/
theorem reader_any (rest : Bs) (w : World) :
    Calls Tryz.prog 35 #[str rest] w fun e w' => e = .returned (.tuple #[.func (.func 64) #[] #[.pointer (some ⟨w.heap.size + 1, 0, none⟩)], .func (.func 67) #[] #[.pointer (some ⟨w.heap.size + 1, 0, none⟩)]]) ∧ BoxS w' w.heap.size rest ∧ w'.heap[w.heap.size + 1]? = some (.cells #[nextV w.heap.size] 108 (0, 0)) ∧ w.heap.size + 2 = w'.heap.size ∧ Below w.heap.size w w' := by
  go_enter Tryz.func35, Tryz.ntmps35
  go_wp2
  go_ret2
  refine ⟨rfl, ?_, ?_, by simp, ((Below.refl _ _).alloc (Nat.le_refl _) _).alloc (by simp) _⟩
  · show ((w.alloc _).alloc _).heap[w.heap.size]? = _
    rw [Lib.alloc_old _ _ _ (by simp)]; exact heap_alloc_new _ _
  · have := heap_alloc_new (w.alloc (.cells #[str rest] 9)) (.cells #[nextV w.heap.size] 108)
    rw [World.size_alloc] at this
    exact this

end Go.Proofs.YtakdhdaoklcidaaGreatDoor

namespace Go.Proofs.YtakdhdaoklcidaaGreatDoor
open Go.RowKit Go.Lib
set_option linter.unusedVariables false
set_option maxRecDepth 100000

/-- Whether an instruction of that Op is right. -/
def tryB (k : Nat) (i : Ins) : Bool := rightB (withOp i k)
theorem encE_q (i : Ins) : (encE i == 0) = rightB i := by
  unfold encE
  cases rightB i <;> rfl
theorem fT_out {k : Nat} (h : ¬ (1 ≤ k ∧ k ≤ 113)) : fT k = ⟨0, false, false, false, 0, false, false⟩ := by
  by_cases h0 : k = 0
  · subst h0; rfl
  · have : tabL.length = 114 := by decide +kernel
    have e : tabL.getD k (0, 15) = (0, 15) := by rw [List.getD_eq_getElem?_getD, List.getElem?_eq_none (by omega)]; rfl
    unfold fT frmT
    rw [e]; rfl
theorem try_out {k : Nat} (h : ¬ (1 ≤ k ∧ k ≤ 113)) (i : Ins) : tryB k i = false := by
  unfold tryB rightB withOp
  rw [decide_eq_false (by simp only []; omega)]; rfl
theorem try_iff {k : Nat} (h : 1 ≤ k ∧ k ≤ 113) (i : Ins) : tryB k i = true ↔ Right (fT k) (withOp i k) := by
  constructor
  · intro e
    have := (rightT_of e).2.2.2
    simpa [withOp] using this
  · intro e
    unfold tryB rightB
    have h1 := (right_iff h.1 (by omega) (withOp i k)).2 e
    have h2 : (withOp i (k : Int)).op.toNat = k := by simp [withOp]
    rw [h2, (eqI_iff _ _).2 h1]
    rw [decide_eq_true (show 1 ≤ (withOp i (k : Int)).op ∧ (withOp i (k : Int)).op ≤ 113 by show 1 ≤ (k : Int) ∧ (k : Int) ≤ 113; omega)]; rfl
theorem num0 {f : Nat} (h : f ≤ 9) : (formL f).number ((formL f).word 0) = 0 := by rw [(num_zero f h).2, (num_zero f h).1]
theorem imm_try : ∀ f, f ≤ 9 → ((formL f).number ((formL f).word 2) == 2 || (formL f).number ((formL f).word 4096) == 4096) = (f != 0) := by decide +kernel
theorem try_rd (k : Nat) : tryB k ⟨0, 1, 0, 0, 0, 0, false, false⟩ = (fT k).rd := by
  by_cases h : 1 ≤ k ∧ k ≤ 113
  · have hf := (fT_ok h.1 (show k < 114 by omega)).imm
    have n0 := num0 hf
    rw [Bool.eq_iff_iff, try_iff h]
    constructor
    · intro e
      have := e.nrd
      cases q : (fT k).rd
      · exact absurd (this q) (by show ¬ (1 : Int) = 0; decide)
      · rfl
    · intro e
      exact ⟨(by show (0 : Int) ≤ 1 ∧ (1 : Int) ≤ 31; decide), (by show (0 : Int) ≤ 0 ∧ (0 : Int) ≤ 31; decide), (by show (0 : Int) ≤ 0 ∧ (0 : Int) ≤ 31; decide), (by show (0 : Int) ≤ 0 ∧ (0 : Int) ≤ 4095; decide), (fun q => by rw [e] at q; cases q), (fun _ => rfl), (fun _ => rfl), (fun _ => rfl), (fun _ => ⟨rfl, rfl⟩), n0⟩
  · rw [try_out h, fT_out h]
theorem try_a (k : Nat) : tryB k ⟨0, 0, 1, 0, 0, 0, false, false⟩ = (fT k).a := by
  by_cases h : 1 ≤ k ∧ k ≤ 113
  · have hf := (fT_ok h.1 (show k < 114 by omega)).imm
    have n0 := num0 hf
    rw [Bool.eq_iff_iff, try_iff h]
    constructor
    · intro e
      have := e.na
      cases q : (fT k).a
      · exact absurd (this q) (by show ¬ (1 : Int) = 0; decide)
      · rfl
    · intro e
      exact ⟨(by show (0 : Int) ≤ 0 ∧ (0 : Int) ≤ 31; decide), (by show (0 : Int) ≤ 1 ∧ (1 : Int) ≤ 31; decide), (by show (0 : Int) ≤ 0 ∧ (0 : Int) ≤ 31; decide), (by show (0 : Int) ≤ 0 ∧ (0 : Int) ≤ 4095; decide), (fun _ => rfl), (fun q => by rw [e] at q; cases q), (fun _ => rfl), (fun _ => rfl), (fun _ => ⟨rfl, rfl⟩), n0⟩
  · rw [try_out h, fT_out h]
theorem try_b (k : Nat) : tryB k ⟨0, 0, 0, 1, 0, 0, false, false⟩ = (fT k).b := by
  by_cases h : 1 ≤ k ∧ k ≤ 113
  · have hf := (fT_ok h.1 (show k < 114 by omega)).imm
    have n0 := num0 hf
    rw [Bool.eq_iff_iff, try_iff h]
    constructor
    · intro e
      have := e.nb
      cases q : (fT k).b
      · exact absurd (this q) (by show ¬ (1 : Int) = 0; decide)
      · rfl
    · intro e
      exact ⟨(by show (0 : Int) ≤ 0 ∧ (0 : Int) ≤ 31; decide), (by show (0 : Int) ≤ 0 ∧ (0 : Int) ≤ 31; decide), (by show (0 : Int) ≤ 1 ∧ (1 : Int) ≤ 31; decide), (by show (0 : Int) ≤ 0 ∧ (0 : Int) ≤ 4095; decide), (fun _ => rfl), (fun _ => rfl), (fun q => by rw [e] at q; cases q), (fun _ => rfl), (fun _ => ⟨rfl, rfl⟩), n0⟩
  · rw [try_out h, fT_out h]
theorem try_csr (k : Nat) : tryB k ⟨0, 0, 0, 0, 0, 1, false, false⟩ = (fT k).csr := by
  by_cases h : 1 ≤ k ∧ k ≤ 113
  · have hf := (fT_ok h.1 (show k < 114 by omega)).imm
    have n0 := num0 hf
    rw [Bool.eq_iff_iff, try_iff h]
    constructor
    · intro e
      have := e.ncsr
      cases q : (fT k).csr
      · exact absurd (this q) (by show ¬ (1 : Int) = 0; decide)
      · rfl
    · intro e
      exact ⟨(by show (0 : Int) ≤ 0 ∧ (0 : Int) ≤ 31; decide), (by show (0 : Int) ≤ 0 ∧ (0 : Int) ≤ 31; decide), (by show (0 : Int) ≤ 0 ∧ (0 : Int) ≤ 31; decide), (by show (0 : Int) ≤ 1 ∧ (1 : Int) ≤ 4095; decide), (fun _ => rfl), (fun _ => rfl), (fun _ => rfl), (fun q => by rw [e] at q; cases q), (fun _ => ⟨rfl, rfl⟩), n0⟩
  · rw [try_out h, fT_out h]
theorem try_n {k : Nat} (h : 1 ≤ k ∧ k ≤ 113) (n : Int) : tryB k ⟨0, 0, 0, 0, n, 0, false, false⟩ = ((formL (fT k).imm).number ((formL (fT k).imm).word n) == n) := by
  rw [Bool.eq_iff_iff, try_iff h, beq_iff_eq]
  constructor
  · intro e; exact e.imm
  · intro e
    exact ⟨(by show (0 : Int) ≤ 0 ∧ (0 : Int) ≤ 31; decide), (by show (0 : Int) ≤ 0 ∧ (0 : Int) ≤ 31; decide), (by show (0 : Int) ≤ 0 ∧ (0 : Int) ≤ 31; decide), (by show (0 : Int) ≤ 0 ∧ (0 : Int) ≤ 4095; decide), (fun _ => rfl), (fun _ => rfl), (fun _ => rfl), (fun _ => rfl), (fun _ => ⟨rfl, rfl⟩), e⟩
theorem try_i (k : Nat) : (tryB k ⟨0, 0, 0, 0, 2, 0, false, false⟩ || tryB k ⟨0, 0, 0, 0, 4096, 0, false, false⟩) = ((fT k).imm != 0) := by
  by_cases h : 1 ≤ k ∧ k ≤ 113
  · rw [try_n h, try_n h]
    exact imm_try _ (fT_ok h.1 (show k < 114 by omega)).imm
  · rw [try_out h, try_out h, fT_out h]; rfl

theorem size_said : (Tryz.prog.info? 51).map (·.size) = some 5 := by kernel_rfl
set_option maxHeartbeats 1000000 in
theorem says_at (k : Nat) (q1 q2 q3 q4 q5 q6 : Bool) (w : World) (he : Env w)
    (h1 : tryB k ⟨0, 1, 0, 0, 0, 0, false, false⟩ = q1)
    (h2 : tryB k ⟨0, 0, 1, 0, 0, 0, false, false⟩ = q2)
    (h3 : tryB k ⟨0, 0, 0, 1, 0, 0, false, false⟩ = q3)
    (h4 : tryB k ⟨0, 0, 0, 0, 2, 0, false, false⟩ = q4)
    (h5 : tryB k ⟨0, 0, 0, 0, 4096, 0, false, false⟩ = q5)
    (h6 : tryB k ⟨0, 0, 0, 0, 0, 1, false, false⟩ = q6)
    : Calls Tryz.prog 23 #[.int .i64 k] w fun e w' => e = .returned (.agg #[.bool q1, .bool q2, .bool q3, .bool (q4 || q5), .bool q6]) ∧ Below w.heap.size w w' := by
  have t1 : ∀ wx, Below w.heap.size w wx → wx.cell? ⟨w.heap.size, 0, none⟩ = some (.int .i64 k) → Calls Tryz.prog 56 #[.agg #[.int .i64 0, .int .i64 1, .int .i64 0, .int .i64 0, .int .i64 0, .int .i64 0, .bool false, .bool false], .pointer (some ⟨w.heap.size, 0, none⟩)] wx fun e w' => e = .returned (.bool q1) ∧ Below wx.heap.size wx w' := fun wx hb hc => says1_any ⟨0, 1, 0, 0, 0, 0, false, false⟩ k _ q1 ((encE_q _).trans h1) wx (he.below hb) hc
  have t2 : ∀ wx, Below w.heap.size w wx → wx.cell? ⟨w.heap.size, 0, none⟩ = some (.int .i64 k) → Calls Tryz.prog 56 #[.agg #[.int .i64 0, .int .i64 0, .int .i64 1, .int .i64 0, .int .i64 0, .int .i64 0, .bool false, .bool false], .pointer (some ⟨w.heap.size, 0, none⟩)] wx fun e w' => e = .returned (.bool q2) ∧ Below wx.heap.size wx w' := fun wx hb hc => says1_any ⟨0, 0, 1, 0, 0, 0, false, false⟩ k _ q2 ((encE_q _).trans h2) wx (he.below hb) hc
  have t3 : ∀ wx, Below w.heap.size w wx → wx.cell? ⟨w.heap.size, 0, none⟩ = some (.int .i64 k) → Calls Tryz.prog 56 #[.agg #[.int .i64 0, .int .i64 0, .int .i64 0, .int .i64 1, .int .i64 0, .int .i64 0, .bool false, .bool false], .pointer (some ⟨w.heap.size, 0, none⟩)] wx fun e w' => e = .returned (.bool q3) ∧ Below wx.heap.size wx w' := fun wx hb hc => says1_any ⟨0, 0, 0, 1, 0, 0, false, false⟩ k _ q3 ((encE_q _).trans h3) wx (he.below hb) hc
  have t4 : ∀ wx, Below w.heap.size w wx → wx.cell? ⟨w.heap.size, 0, none⟩ = some (.int .i64 k) → Calls Tryz.prog 56 #[.agg #[.int .i64 0, .int .i64 0, .int .i64 0, .int .i64 0, .int .i64 2, .int .i64 0, .bool false, .bool false], .pointer (some ⟨w.heap.size, 0, none⟩)] wx fun e w' => e = .returned (.bool q4) ∧ Below wx.heap.size wx w' := fun wx hb hc => says1_any ⟨0, 0, 0, 0, 2, 0, false, false⟩ k _ q4 ((encE_q _).trans h4) wx (he.below hb) hc
  have t5 : ∀ wx, Below w.heap.size w wx → wx.cell? ⟨w.heap.size, 0, none⟩ = some (.int .i64 k) → Calls Tryz.prog 56 #[.agg #[.int .i64 0, .int .i64 0, .int .i64 0, .int .i64 0, .int .i64 4096, .int .i64 0, .bool false, .bool false], .pointer (some ⟨w.heap.size, 0, none⟩)] wx fun e w' => e = .returned (.bool q5) ∧ Below wx.heap.size wx w' := fun wx hb hc => says1_any ⟨0, 0, 0, 0, 4096, 0, false, false⟩ k _ q5 ((encE_q _).trans h5) wx (he.below hb) hc
  have t6 : ∀ wx, Below w.heap.size w wx → wx.cell? ⟨w.heap.size, 0, none⟩ = some (.int .i64 k) → Calls Tryz.prog 56 #[.agg #[.int .i64 0, .int .i64 0, .int .i64 0, .int .i64 0, .int .i64 0, .int .i64 1, .bool false, .bool false], .pointer (some ⟨w.heap.size, 0, none⟩)] wx fun e w' => e = .returned (.bool q6) ∧ Below wx.heap.size wx w' := fun wx hb hc => says1_any ⟨0, 0, 0, 0, 0, 1, false, false⟩ k _ q6 ((encE_q _).trans h6) wx (he.below hb) hc
  have T1 := Lib.hid t1
  have T2 := Lib.hid t2
  have T3 := Lib.hid t3
  have T4 := Lib.hid t4
  have T5 := Lib.hid t5
  have T6 := Lib.hid t6
  clear he t1 h1 t2 h2 t3 h3 t4 h4 t5 h5 t6 h6
  go_enter Tryz.func23, Tryz.ntmps23
  go_wp2_with (fail)
  (with_reducible refine (T1.out _ (((Below.refl _ _).alloc (Nat.le_refl _) _).alloc (by simp) _) (by go_simp)).mono ?_)
  rintro e w1 ⟨rfl, hb1⟩
  have hz1 : w.heap.size + 1 < w1.heap.size := (by have := hb1.size; simp at this; omega)
  have HC1 : Hid (w1.cell? ⟨w.heap.size, 0, none⟩ = some (.int .i64 k)) := Lib.hid ((hb1.cell (p := ⟨w.heap.size, 0, none⟩) (by simp <;> omega)).trans (by go_simp))
  have HS1 : Hid (∃ v0 v1 v2 v3 v4, w1.heap[w.heap.size + 1]? = some (.cells #[v0, v1, v2, v3, v4] 51 (0, 0))) := Lib.hid ⟨.bool false, .bool false, .bool false, .bool false, .bool false, (hb1.block (w.heap.size + 1) (by simp <;> omega)).trans (by have := heap_alloc_new (w.alloc (.cells #[.int .i64 k] 3)) (.cells #[.bool false, .bool false, .bool false, .bool false, .bool false] 51); rw [World.size_alloc] at this; exact this)⟩
  have HB1 : Hid (Below w.heap.size w w1) := Lib.hid ((((Below.refl _ _).alloc (Nat.le_refl _) _).alloc (by simp) _).trans (hb1.mono (by simp; omega)))
  clear hb1
  go_wp2_with (fail)
  (with_reducible refine (T2.out _ HB1.out HC1.out).mono ?_)
  rintro e w2 ⟨rfl, hb2⟩
  have HC2 : Hid (w2.cell? ⟨w.heap.size, 0, none⟩ = some (.int .i64 k)) := Lib.hid ((hb2.cell (p := ⟨w.heap.size, 0, none⟩) (by simp; omega)).trans HC1.out)
  have HS2 : Hid (∃ v0 v1 v2 v3 v4, w2.heap[w.heap.size + 1]? = some (.cells #[v0, v1, v2, v3, v4] 51 (0, 0))) := Lib.hid (by obtain ⟨v0, v1, v2, v3, v4, hv⟩ := HS1.out; exact ⟨v0, v1, v2, v3, v4, (hb2.block (w.heap.size + 1) (by omega)).trans hv⟩)
  have hz2 : w.heap.size + 1 < w2.heap.size := (by have := hb2.size; omega)
  have HB2 : Hid (Below w.heap.size w w2) := Lib.hid (HB1.out.trans (hb2.mono (by omega)))
  clear hb2 hz1 HB1 HC1 HS1
  go_wp2_with (fail)
  (with_reducible refine (T3.out _ HB2.out HC2.out).mono ?_)
  rintro e w3 ⟨rfl, hb3⟩
  have HC3 : Hid (w3.cell? ⟨w.heap.size, 0, none⟩ = some (.int .i64 k)) := Lib.hid ((hb3.cell (p := ⟨w.heap.size, 0, none⟩) (by simp; omega)).trans HC2.out)
  have HS3 : Hid (∃ v0 v1 v2 v3 v4, w3.heap[w.heap.size + 1]? = some (.cells #[v0, v1, v2, v3, v4] 51 (0, 0))) := Lib.hid (by obtain ⟨v0, v1, v2, v3, v4, hv⟩ := HS2.out; exact ⟨v0, v1, v2, v3, v4, (hb3.block (w.heap.size + 1) (by omega)).trans hv⟩)
  have hz3 : w.heap.size + 1 < w3.heap.size := (by have := hb3.size; omega)
  have HB3 : Hid (Below w.heap.size w w3) := Lib.hid (HB2.out.trans (hb3.mono (by omega)))
  clear hb3 hz2 HB2 HC2 HS2
  cases q4
  · go_wp2_with (fail)
    (with_reducible refine (T4.out _ HB3.out HC3.out).mono ?_)
    rintro e w4 ⟨rfl, hb4⟩
    have HC4 : Hid (w4.cell? ⟨w.heap.size, 0, none⟩ = some (.int .i64 k)) := Lib.hid ((hb4.cell (p := ⟨w.heap.size, 0, none⟩) (by simp; omega)).trans HC3.out)
    have HS4 : Hid (∃ v0 v1 v2 v3 v4, w4.heap[w.heap.size + 1]? = some (.cells #[v0, v1, v2, v3, v4] 51 (0, 0))) := Lib.hid (by obtain ⟨v0, v1, v2, v3, v4, hv⟩ := HS3.out; exact ⟨v0, v1, v2, v3, v4, (hb4.block (w.heap.size + 1) (by omega)).trans hv⟩)
    have hz4 : w.heap.size + 1 < w4.heap.size := (by have := hb4.size; omega)
    have HB4 : Hid (Below w.heap.size w w4) := Lib.hid (HB3.out.trans (hb4.mono (by omega)))
    clear hb4 hz3 HB3 HC3 HS3
    go_wp2_with (fail)
    (with_reducible refine (T5.out _ HB4.out HC4.out).mono ?_)
    rintro e w5 ⟨rfl, hb5⟩
    have HC5 : Hid (w5.cell? ⟨w.heap.size, 0, none⟩ = some (.int .i64 k)) := Lib.hid ((hb5.cell (p := ⟨w.heap.size, 0, none⟩) (by simp; omega)).trans HC4.out)
    have HS5 : Hid (∃ v0 v1 v2 v3 v4, w5.heap[w.heap.size + 1]? = some (.cells #[v0, v1, v2, v3, v4] 51 (0, 0))) := Lib.hid (by obtain ⟨v0, v1, v2, v3, v4, hv⟩ := HS4.out; exact ⟨v0, v1, v2, v3, v4, (hb5.block (w.heap.size + 1) (by omega)).trans hv⟩)
    have hz5 : w.heap.size + 1 < w5.heap.size := (by have := hb5.size; omega)
    have HB5 : Hid (Below w.heap.size w w5) := Lib.hid (HB4.out.trans (hb5.mono (by omega)))
    clear hb5 hz4 HB4 HC4 HS4
    go_wp2_with (fail)
    (with_reducible refine (T6.out _ HB5.out HC5.out).mono ?_)
    rintro e w6 ⟨rfl, hb6⟩
    have HC6 : Hid (w6.cell? ⟨w.heap.size, 0, none⟩ = some (.int .i64 k)) := Lib.hid ((hb6.cell (p := ⟨w.heap.size, 0, none⟩) (by simp; omega)).trans HC5.out)
    have HS6 : Hid (∃ v0 v1 v2 v3 v4, w6.heap[w.heap.size + 1]? = some (.cells #[v0, v1, v2, v3, v4] 51 (0, 0))) := Lib.hid (by obtain ⟨v0, v1, v2, v3, v4, hv⟩ := HS5.out; exact ⟨v0, v1, v2, v3, v4, (hb6.block (w.heap.size + 1) (by omega)).trans hv⟩)
    have hz6 : w.heap.size + 1 < w6.heap.size := (by have := hb6.size; omega)
    have HB6 : Hid (Below w.heap.size w w6) := Lib.hid (HB5.out.trans (hb6.mono (by omega)))
    clear hb6 hz5 HB5 HC5 HS5
    obtain ⟨v0, v1, v2, v3, v4, hv⟩ := HS6.out
    have HV := Lib.hid hv
    clear hv
    go_wp2_with (refine wpList_store_row rfl _ _ _ rfl (w.heap.size + 1) _ rfl rfl 51 _ HV.out size_said rfl (by simp [Value.oneCell']) ?_)
    exact bodyPost_ret (v := .agg #[.bool q1, .bool q2, .bool q3, .bool q5, .bool q6]) (results_cell_row (show Tryz.f23.results = #[.cell 2 51] by kernel_rfl) _ _ (w.heap.size + 1) 51 _ _ _ rfl (setRow_heap _ _ _ _ _ _ HV.out) Tryz.underlying51 rfl size_said) rfl ⟨rfl, below_setRow HB6.out (by simp) _⟩
  · go_wp2_with (fail)
    (with_reducible refine (T4.out _ HB3.out HC3.out).mono ?_)
    rintro e w4 ⟨rfl, hb4⟩
    have HC4 : Hid (w4.cell? ⟨w.heap.size, 0, none⟩ = some (.int .i64 k)) := Lib.hid ((hb4.cell (p := ⟨w.heap.size, 0, none⟩) (by simp; omega)).trans HC3.out)
    have HS4 : Hid (∃ v0 v1 v2 v3 v4, w4.heap[w.heap.size + 1]? = some (.cells #[v0, v1, v2, v3, v4] 51 (0, 0))) := Lib.hid (by obtain ⟨v0, v1, v2, v3, v4, hv⟩ := HS3.out; exact ⟨v0, v1, v2, v3, v4, (hb4.block (w.heap.size + 1) (by omega)).trans hv⟩)
    have hz4 : w.heap.size + 1 < w4.heap.size := (by have := hb4.size; omega)
    have HB4 : Hid (Below w.heap.size w w4) := Lib.hid (HB3.out.trans (hb4.mono (by omega)))
    clear hb4 hz3 HB3 HC3 HS3
    go_wp2_with (fail)
    (with_reducible refine (T6.out _ HB4.out HC4.out).mono ?_)
    rintro e w6 ⟨rfl, hb6⟩
    have HC6 : Hid (w6.cell? ⟨w.heap.size, 0, none⟩ = some (.int .i64 k)) := Lib.hid ((hb6.cell (p := ⟨w.heap.size, 0, none⟩) (by simp; omega)).trans HC4.out)
    have HS6 : Hid (∃ v0 v1 v2 v3 v4, w6.heap[w.heap.size + 1]? = some (.cells #[v0, v1, v2, v3, v4] 51 (0, 0))) := Lib.hid (by obtain ⟨v0, v1, v2, v3, v4, hv⟩ := HS4.out; exact ⟨v0, v1, v2, v3, v4, (hb6.block (w.heap.size + 1) (by omega)).trans hv⟩)
    have hz6 : w.heap.size + 1 < w6.heap.size := (by have := hb6.size; omega)
    have HB6 : Hid (Below w.heap.size w w6) := Lib.hid (HB4.out.trans (hb6.mono (by omega)))
    clear hb6 hz4 HB4 HC4 HS4
    obtain ⟨v0, v1, v2, v3, v4, hv⟩ := HS6.out
    have HV := Lib.hid hv
    clear hv
    go_wp2_with (refine wpList_store_row rfl _ _ _ rfl (w.heap.size + 1) _ rfl rfl 51 _ HV.out size_said rfl (by simp [Value.oneCell']) ?_)
    exact bodyPost_ret (v := .agg #[.bool q1, .bool q2, .bool q3, .bool true, .bool q6]) (results_cell_row (show Tryz.f23.results = #[.cell 2 51] by kernel_rfl) _ _ (w.heap.size + 1) 51 _ _ _ rfl (setRow_heap _ _ _ _ _ _ HV.out) Tryz.underlying51 rfl size_said) rfl ⟨rfl, below_setRow HB6.out (by simp) _⟩

theorem says_any (k : Nat) (w : World) (he : Env w) : Calls Tryz.prog 23 #[.int .i64 k] w fun e w' => e = .returned (.agg #[.bool (fT k).rd, .bool (fT k).a, .bool (fT k).b, .bool ((fT k).imm != 0), .bool (fT k).csr]) ∧ Below w.heap.size w w' := by
  rw [← try_i]
  exact says_at k _ _ _ _ _ _ w he (try_rd k) (try_a k) (try_b k) rfl rfl (try_csr k)

end Go.Proofs.YtakdhdaoklcidaaGreatDoor

namespace Go.Proofs.YtakdhdaoklcidaaGreatDoor
open Go.RowKit Go.Lib
set_option linter.unusedVariables false
set_option maxRecDepth 100000

theorem bX : Builder.Extra Tryz.prog bstrLays_ren where
  sizeBuilder := by kernel_rfl
  liesBuilder := by kernel_rfl
  t5 := Tryz.underlying5
  a5 := Tryz.isAgg5
  z5 := Tryz.sizeOf5
  v5 := Tryz.zeroValue5
  infoByte := by kernel_rfl
  cellsByte := by kernel_rfl
  sizeByte := by kernel_rfl
  neB5 := by decide

/-- A builder of the call's own. -/
abbrev IsB (B b : Nat) (l : Bs) (w : World) : Prop := Lib.IsBuilderF 103 5 B b (Lib.byteCells l) w

theorem copyCheck_used (b : Nat) (w : World) (h0 : w.cell? ⟨b, 0, none⟩ = some (.pointer (some ⟨b, 0, none⟩))) :
    Calls Tryz.prog 91 #[.pointer (some ⟨b, 0, none⟩)] w fun e w' => e = .returned (.tuple #[]) ∧ w = w' := by
  obtain ⟨j, hj, _⟩ := Option.map_eq_some_iff.1 bX.sizeBuilder
  have hne := Lib.run_neq_ptr_same w ⟨b, 0, none⟩ Tryz.underlying101 hj
  go_enter Tryz.func91, Tryz.ntmps91
  go_wp2
  go_end0
  exact ⟨rfl, rfl⟩

theorem copyCheck_fresh (b : Nat) (w : World) (h0 : w.cell? ⟨b, 0, none⟩ = some (.pointer none)) (hsh : w.shape? b = some (103, 2)) (hfz : w.frozen? ⟨b, 0, none⟩ = false) :
    Calls Tryz.prog 91 #[.pointer (some ⟨b, 0, none⟩)] w fun e w' => e = .returned (.tuple #[]) ∧ w' = w.setCell ⟨b, 0, none⟩ (.pointer (some ⟨b, 0, none⟩)) := by
  obtain ⟨j, hj, hjs⟩ := Option.map_eq_some_iff.1 bX.sizeBuilder
  have c1 := Lib.run_to_unsafe w ⟨b, 0, none⟩ Tryz.underlying101 Tryz.underlying160 hj (by rw [hjs]; decide) hsh (Nat.zero_lt_succ 1)
  have c2 := Lib.run_from_unsafe w ⟨b, 0, none⟩ Tryz.underlying160 Tryz.underlying101 hj hsh bX.liesBuilder
  have c3 : ∀ a w, (callFunc 109 #[a]).run Tryz.prog w = .ok (.value a) w := fun a w => by
    rw [run_callFunc_extern Tryz.func109 (by kernel_rfl) (by kernel_rfl) (by kernel_rfl) (e := Extern.AbiNoEscape.same) (by kernel_rfl), Lib.run_noEscape]
    rfl
  go_enter Tryz.func91, Tryz.ntmps91
  go_wp2
  go_end0
  exact ⟨rfl, rfl⟩

theorem copyCheck_any (B b : Nat) (bs : List Value) (w : World) (h : Lib.IsBuilderF 103 5 B b bs w) :
    Calls Tryz.prog 91 #[.pointer (some ⟨b, 0, none⟩)] w fun e w' => e = .returned (.tuple #[]) ∧ Lib.BuilderAtF 103 5 B b (.pointer (some ⟨b, 0, none⟩)) bs w' ∧ Below B w w' := by
  rcases h with h | h
  · refine (copyCheck_fresh b w h.cell0 h.shape h.frozen0).mono ?_
    rintro e w' ⟨rfl, rfl⟩
    exact ⟨rfl, h.used _, (Below.refl B w).setCell (p := ⟨b, 0, none⟩) h.1 _⟩
  · refine (copyCheck_used b w h.cell0).mono ?_
    rintro e w' ⟨rfl, rfl⟩
    exact ⟨rfl, h, Below.refl B _⟩

set_option maxHeartbeats 2000000 in
theorem ws_any (B b : Nat) (l s : Bs) (w : World) (h : IsB B b l w) (hlen : l.length + s.length ≤ 1000000) (hBw : B ≤ w.heap.size) :
    Calls Tryz.prog 57 #[.pointer (some ⟨b, 0, none⟩), str s] w fun e w' => e = .returned (.tuple #[.int .i64 s.length, .nilIface]) ∧ IsB B b (l ++ s) w' ∧ Below B w w' := by
  obtain ⟨i0, hi, hz0, hz1, hz2⟩ := info_parts bX.infoByte
  have HCC := Lib.hid (copyCheck_any B b (Lib.byteCells l) w h)
  have hss : (⟨s.toArray⟩ : ByteArray).size = s.length := List.size_toArray
  have hcs : Lib.strCells ⟨s.toArray⟩ = Lib.byteCells s := rfl
  have hbl : (Lib.byteCells l).length = l.length := Lib.byteCells_length l
  clear h
  go_enter Tryz.func57, Tryz.ntmps57
  go_wp2_with (fail)
  (with_reducible refine HCC.out.mono ?_)
  rintro e w1 ⟨rfl, h1, hb1⟩
  obtain ⟨hB, v, hbk, hown, hne⟩ := h1
  have c1 : w1.cell? ⟨b, 1, none⟩ = some v := by rw [Lib.cell_of_heap hbk]; rfl
  go_wp2_with (at_builtin; refine Lib.wpList_append_own_stringF _ rfl _ _ 48 9 rfl B 5 i0 Tryz.underlying48 Tryz.underlying9 hi hz0 hz1 hz2 _ _ _ rfl hown ⟨s.toArray⟩ rfl ?c3 ?c4 ?c5 ?_)
  case c3 => unfold maxLen; omega
  case c4 => omega
  case c5 => have := hb1.size; omega
  intro v' w2 hown' hgrow _
  have hlt : b < w1.heap.size := by
    rcases Nat.lt_or_ge b w1.heap.size with h' | h'
    · exact h'
    · simp [Array.getElem?_eq_none h'] at hbk
  have hb2 : w2.heap[b]? = some (.cells #[.pointer (some ⟨b, 0, none⟩), v] 103 (0, 0)) := by
    rw [hgrow.block b hlt (fun e => hne e.symm)]
    exact hbk
  have d1 : w2.cell? ⟨b, 1, none⟩ = some v := by rw [Lib.cell_of_heap hb2]; rfl
  have f1 : w2.frozen? ⟨b, 1, none⟩ = false := Lib.frozen_of_heap hb2 1
  obtain ⟨ao, n', cap, rfl⟩ : ∃ ao n' cap, v' = .slice ao n' cap := by
    rcases hown'.2 with ⟨hv, _⟩ | ⟨g, cap, cur, fz, hv, _⟩
    · exact ⟨_, _, _, hv⟩
    · exact ⟨_, _, _, hv⟩
  have HO := Lib.hid hown'
  have HG := Lib.hid hgrow
  have HB2 := Lib.hid hb2
  have HBL := Lib.hid hb1
  have HW := Lib.hid hown
  clear hown' hgrow hb2 hb1 hown c1 hbk hne
  go_wp2
  go_ret2
  refine ⟨rfl, ?_, ?_⟩
  · exact Or.inr (Lib.BuilderAtF.put (T := 103) (e := 5) hB HB2.out (bs' := Lib.byteCells (l ++ s)) (by rw [Lib.byteCells_append, List.length_append, hbl, Lib.byteCells_length]; exact HO.out) bX.neB5)
  · exact (HBL.out.grown HG.out (by have := HBL.out.size; omega) (fun k hk => (HW.out.lt k hk).1)).setCell (p := ⟨b, 1, none⟩) hB _

/-- What is written of operands: those that are texts. -/
def someT (os : List Bs) : List Bs := os.filter fun o => !o.isEmpty
/-- What is written ahead of the operand that comes next. -/
def sepOf (done : List Bs) : Bs := if someT done = [] then [32] else sepC
theorem tail_more (sep : Bs) (os : List Bs) (o : Bs) : tailT sep (os ++ [o]) = tailT sep os ++ (if os = [] then sep else sepC) ++ o := by
  induction os generalizing sep with
  | nil => simp [tailT]
  | cons p os ih =>
    simp only [List.cons_append, tailT, ih]
    cases os <;> simp [tailT]
theorem line_more (name : Bs) (os : List Bs) (o : Bs) (h : o ≠ []) : lineT name (someT (os ++ [o])) = lineT name (someT os) ++ sepOf os ++ o := by
  have e : someT (os ++ [o]) = someT os ++ [o] := by
    unfold someT
    rw [List.filter_append]
    cases o with
    | nil => exact absurd rfl h
    | cons a b => rfl
  unfold lineT
  rw [e, tail_more]
  unfold sepOf
  simp
theorem line_skip (name : Bs) (os : List Bs) : lineT name (someT (os ++ [[]])) = lineT name (someT os) := by
  unfold someT
  rw [List.filter_append]
  simp
theorem sepOf_more (os : List Bs) (o : Bs) (h : o ≠ []) : sepOf (os ++ [o]) = sepC := by
  unfold sepOf someT
  rw [List.filter_append]
  cases o with
  | nil => exact absurd rfl h
  | cons a b => simp
theorem sepOf_skip (os : List Bs) : sepOf (os ++ [[]]) = sepOf os := by
  unfold sepOf someT
  rw [List.filter_append]
  simp
theorem lineT_len (name : Bs) (os : List Bs) : (lineT name os).length ≤ name.length + (os.map fun o => o.length + 2).sum := by
  unfold lineT
  have : ∀ sep : Bs, sep.length ≤ 2 → (tailT sep os).length ≤ (os.map fun o => o.length + 2).sum := by
    induction os with
    | nil => intro sep _; simp [tailT]
    | cons o os ih =>
      intro sep hs
      have := ih sepC (by decide)
      simp [tailT]; omega
  have := this [32] (by decide)
  simp; omega
theorem take_next (os : List Bs) {k : Nat} (h : k < os.length) : os.take (k + 1) = os.take k ++ [os.getD k []] := by
  rw [List.take_succ_eq_append_getElem h, List.getD_eq_getElem?_getD, List.getElem?_eq_getElem h]; rfl
theorem someT_sum (os : List Bs) (k : Nat) : ((someT (os.take k)).map fun o => o.length + 2).sum ≤ (os.map fun o => o.length + 2).sum := by
  have h1 : ∀ l : List Bs, ((someT l).map fun o => o.length + 2).sum ≤ (l.map fun o => o.length + 2).sum := by
    intro l
    induction l with
    | nil => simp [someT]
    | cons o l ih =>
      unfold someT at *
      rw [List.filter_cons]
      split <;> simp <;> omega
  have h2 : ((os.take k).map fun o => o.length + 2).sum ≤ (os.map fun o => o.length + 2).sum := by
    conv => rhs; rw [← List.take_append_drop k os]
    rw [List.map_append, List.sum_append]; omega
  exact Nat.le_trans (h1 _) h2

end Go.Proofs.YtakdhdaoklcidaaGreatDoor

namespace Go.Proofs.YtakdhdaoklcidaaGreatDoor
open Go.RowKit Go.Lib
set_option linter.unusedVariables false
set_option maxRecDepth 100000

set_option maxHeartbeats 2000000 in
theorem writeL (name : Bs) (os : List Bs) (g cap : Nat) (w : World) (hn : os.length ≤ 100) (hlen : name.length + (os.map fun o => o.length + 2).sum ≤ 100000) (hc : ∀ k, k < os.length → w.cell? ⟨g, k, none⟩ = some (str (os.getD k []))) :
    Calls Tryz.prog 24 #[str name, .slice (some ⟨g, 0, none⟩) os.length cap] w fun e w' => e = .returned (str (lineT name (someT os))) ∧ Below w.heap.size w w' := by
  have hF : IsB w.heap.size w.heap.size [] (w.alloc (.cells #[.pointer none, .slice none 0 0] 103)) := Lib.IsBuilderF.of (Lib.fresh_isBuilder 103 5 w)
  have HF := Lib.hid hF
  clear hF
  have HC := Lib.hid hc
  have HL := Lib.hid hlen
  have hnl : name.length ≤ 100000 := by omega
  clear hc hlen
  go_enter Tryz.func24, Tryz.ntmps24
  go_wp2_with (fail)
  (with_reducible refine (ws_any w.heap.size w.heap.size [] name _ HF.out (by simp; omega) (by simp)).mono ?_)
  rintro e w1 ⟨rfl, hb1, hw1⟩
  have HB := Lib.hid hb1
  have HW := Lib.hid (((Below.refl _ _).alloc (Nat.le_refl _) (.cells #[.pointer none, .slice none 0 0] 103)).trans hw1)
  clear hb1 hw1
  go_wp2
  go_loopw [6, 13] (fun s k wr => ∃ j : Nat, j ≤ os.length ∧ k = .int .i64 j ∧ s = str (sepOf (os.take j)) ∧ IsB w.heap.size w.heap.size (lineT name (someT (os.take j))) wr ∧ Below w.heap.size w wr) (fun _ k _ => os.length - (RowKit.intOf k).toNat)
  case atStart => exact ⟨0, Nat.zero_le _, rfl, rfl, by rw [List.take_zero]; simpa [someT, lineT, tailT] using HB.out, HW.out⟩
  case round =>
    obtain ⟨j, hj, rfl, rfl, hb, hw⟩ := hrel
    have HB2 := Lib.hid hb
    have HW2 := Lib.hid hw
    clear hb hw HB HW
    by_cases hlt : j < os.length
    · have hx := HC.out j hlt
      have hxw := cell_stays HW2.out hx
      have hs1 := take_next os hlt
      have hsum := Nat.le_trans (someT_sum os (j + 1)) (Nat.le_refl _)
      have hlin := lineT_len name (someT (os.take (j + 1)))
      have HLJ : Hid ((lineT name (someT (os.take (j + 1)))).length ≤ 100000) := Lib.hid (by have := HL.out; omega)
      have HSZ := Lib.hid HW2.out.size
      clear hsum hlin hx
      by_cases he : os.getD j [] = []
      · have e1 := line_skip name (os.take j)
        have e2 := sepOf_skip (os.take j)
        rw [hs1, he] at HLJ
        have HS : Hid (lineT name (someT (os.take (j + 1))) = lineT name (someT (os.take j)) ∧ sepOf (os.take (j + 1)) = sepOf (os.take j)) := Lib.hid (by rw [hs1, he]; exact ⟨e1, e2⟩)
        rw [he] at hxw
        clear e1 e2 hs1 he HLJ
        generalize sepOf (os.take j) = sp at *
        generalize lineT name (someT (os.take j)) = ln at *
        go_wp2
        go_roundw
        case rel => exact ⟨j + 1, by omega, by go_num, by rw [HS.out.2], by rw [HS.out.1]; exact HB2.out, HW2.out⟩
        case measure => simp [RowKit.intOf]; omega
      · have e1 := line_more name (os.take j) (os.getD j []) he
        have e2 := sepOf_more (os.take j) (os.getD j []) he
        have hz1 : (os.getD j []).isEmpty = false := by cases q : os.getD j [] with | nil => exact absurd q he | cons a b => rfl
        have HS : Hid (lineT name (someT (os.take (j + 1))) = lineT name (someT (os.take j)) ++ sepOf (os.take j) ++ os.getD j [] ∧ sepOf (os.take (j + 1)) = sepC) := Lib.hid (by rw [hs1]; exact ⟨e1, e2⟩)
        clear e1 e2 hs1
        have HLL : Hid ((lineT name (someT (os.take j))).length + (sepOf (os.take j)).length + (os.getD j []).length ≤ 100000) := Lib.hid (by have := HLJ.out; rw [HS.out.1, List.length_append, List.length_append] at this; exact this)
        have hq : ((os.getD j [] : Bs) == ([] : Bs)) = false := by cases q : os.getD j [] with | nil => exact absurd q he | cons a b => rfl
        clear HLJ he
        generalize os.getD j [] = o at *
        generalize sepOf (os.take j) = sp at *
        generalize lineT name (someT (os.take j)) = ln at *
        go_wp2_with (fail)
        (with_reducible refine (ws_any w.heap.size w.heap.size ln sp _ HB2.out (by have := HLL.out; omega) HSZ.out).mono ?_)
        rintro e w2 ⟨rfl, hb2, hw2⟩
        have HB3 := Lib.hid hb2
        have HW3 := Lib.hid (HW2.out.trans hw2)
        have HSZ3 := Lib.hid HW3.out.size
        clear hb2 hw2
        go_wp2_with (fail)
        (with_reducible refine (ws_any w.heap.size w.heap.size (ln ++ sp) o _ HB3.out (by have := HLL.out; rw [List.length_append]; omega) HSZ3.out).mono ?_)
        rintro e w3 ⟨rfl, hb3, hw3⟩
        have HB4 := Lib.hid hb3
        have HW4 := Lib.hid (HW3.out.trans hw3)
        clear hb3 hw3
        go_wp2
        go_roundw
        case rel => exact ⟨j + 1, by omega, by go_num, by rw [HS.out.2]; rfl, by rw [HS.out.1]; exact HB4.out, HW4.out⟩
        case measure => simp [RowKit.intOf]; omega
    · obtain rfl : j = os.length := by omega
      rw [List.take_length] at HB2
      have HSZ := Lib.hid HW2.out.size
      go_wp2_with (fail)
      refine (Any.Builder_String_any_k bstrLays bX w.heap.size w.heap.size (lineT name (someT os)) _ HB2.out HSZ.out).mono ?_
      rintro e w2 ⟨rfl, _, hw2, _⟩
      have HW3 := Lib.hid (HW2.out.trans hw2)
      clear hw2
      go_wp2
      go_ret
      exact ⟨rfl, HW3.out⟩

end Go.Proofs.YtakdhdaoklcidaaGreatDoor

namespace Go.Proofs.YtakdhdaoklcidaaGreatDoor
section
variable {P : Program} {ops : Array Oper} {md : Region.Mode} {Q : Exit → Act → World → Prop} {S : World → Prop}
/-- 'wpAnyH_take' where the operation runs: its temporary d is written out, so that the state can be laid out behind it. -/
theorem takeD {i : Nat} {oi : Oper} (d : Option Tmp) {v : Value} {fuel : Nat} {listed : Array Bool} {a : Act} {w : World} (hi : ops[i]? = some oi) (hd : oi.dst = d)
    (hs : Region.noSelect ops = true) (hf : Region.free md ops listed i = true) (hr : (Region.ready md ops listed).contains i = true)
    (hQ : ∀ c a w, Q (.panic c) (a.put d v) w → Q (.panic c) a w) (hw : Region.wanted oi (yielded ops a.tmps) = true) (hS : S w) (hy : ∀ w, S w → (execOp a.eval oi).run P w = .ok (.value v) w)
    (h : wpAnyH P md ops Q S fuel (listed.setIfInBounds i true) (a.put d v) w) : wpAnyH P md ops Q S (fuel + 1) listed a w := by
  subst hd; exact wpAnyH_take hi hs hf hr hQ (.inl ⟨hw, hy⟩) hS h
end

end Go.Proofs.YtakdhdaoklcidaaGreatDoor

namespace Go.Proofs.YtakdhdaoklcidaaGreatDoor
open Go.RowKit Go.Lib
set_option linter.unusedVariables false
set_option maxRecDepth 100000

/-- A text, where it is wanted. -/
def whT (q : Bool) (l : Bs) : Bs := if q then l else []
theorem where_any (q : Bool) (l : Bs) (w : World) : Calls Tryz.prog 27 #[.bool q, str l] w fun e w' => e = .returned (str (whT q l)) ∧ w = w' := by
  cases q
  · exact where_no _ w
  · exact where_yes _ w
theorem someT_ops (f : Frm) (i : Ins) : someT [whT f.rd (xr i.rd), whT f.a (xr i.a), whT f.b (xr i.b), whT (f.imm != 0) (itoa i.imm), whT f.csr (itoa i.csr)] = opsF f i := by
  have hx : ∀ n, (xr n).isEmpty = false := fun n => rfl
  have hn : ∀ n, (itoa n).isEmpty = false := fun n => by cases e : itoa n with | nil => exact absurd e (itoa_ne n) | cons a b => rfl
  unfold opsF someT whT
  cases f.rd <;> cases f.a <;> cases f.b <;> cases (f.imm != 0) <;> cases f.csr <;> simp [List.filter_cons, hx, hn]
theorem nameP (k : Nat) (h1 : 1 ≤ k) (h2 : k ≤ 113) (w : World) : Calls Tryz.prog 25 #[.int .i64 k] w fun e w' => e = .returned (str (nameB k)) ∧ Below w.heap.size w w' := name_yes k h1 h2 w
theorem name_short : ∀ k, k < 114 → (nameB k).length ≤ 12 := by decide +kernel
theorem mark_short (aq rl : Bool) : (markT aq rl).length ≤ 5 := by cases aq <;> cases rl <;> decide
theorem whT_len (q : Bool) (l : Bs) : (whT q l).length ≤ l.length := by unfold whT; cases q <;> simp
theorem str_cat (a b : Bs) : Value.string ((⟨a.toArray⟩ : ByteArray) ++ ⟨b.toArray⟩) = str (a ++ b) := by
  show Value.string _ = Value.string _
  congr 1

theorem print_no (i : Ins) (hr : rightB i = false) (w : World) (he : Env w) : Calls Tryz.prog 10 #[insV i] w fun e w' => e = .returned (.tuple #[str [], .int .i64 80]) ∧ Below w.heap.size w w' := by
  have hE : ∀ w, Env w → Calls Tryz.prog 21 #[insV i] w fun e w' => e = .returned (.tuple #[.int .u32 (encW i), .int .i64 80]) ∧ Below w.heap.size w w' := fun w he => by
    have h := encode_is i w he.tab
    rw [show encE i = 80 by unfold encE; rw [hr]; rfl] at h; exact h
  have HE := Lib.hid hE
  have HV := Lib.hid he
  clear hE he hr
  generalize encW i = W at *
  obtain ⟨op, rd, a, b, imm, csr, aq, rl⟩ := i
  go_enter Tryz.func10, Tryz.ntmps10
  go_wp2_with (fail)
  (with_reducible refine (HE.out _ (HV.out.below ((Below.refl _ _).alloc (Nat.le_refl _) _))).mono ?_)
  rintro e w1 ⟨rfl, hb1⟩
  have HB := Lib.hid (((Below.refl _ _).alloc (Nat.le_refl _) (.cells #[.int .i64 op, .int .i64 rd, .int .i64 a, .int .i64 b, .int .i64 imm, .int .i64 csr, .bool aq, .bool rl] 23)).trans (hb1.mono (by simp)))
  clear hb1
  go_wp2
  go_ret2
  exact ⟨rfl, HB.out⟩

set_option maxHeartbeats 4000000 in
theorem print_yes (i : Ins) (hr : rightB i = true) (w : World) (he : Env w) : Calls Tryz.prog 10 #[insV i] w fun e w' => e = .returned (.tuple #[str (printT i), .int .i64 0]) ∧ Below w.heap.size w w' := by
  obtain ⟨h1, h2, h3, h4⟩ := rightT_of hr
  have hE : ∀ w, Env w → Calls Tryz.prog 21 #[insV i] w fun e w' => e = .returned (.tuple #[.int .u32 (encW i), .int .i64 0]) ∧ Below w.heap.size w w' := fun w he => by
    have h := encode_is i w he.tab
    rw [show encE i = 0 by unfold encE; rw [hr]; rfl] at h; exact h
  have hf := (fT_ok h1 (by omega)).imm
  have hI := (right_imm hf h4).1
  have p1 := h4.rd; have p2 := h4.a; have p3 := h4.b; have p4 := h4.csr
  have hP : printT i = lineT (nameB i.op.toNat ++ markT i.aq i.rl) (someT [whT (fT i.op.toNat).rd (xr i.rd), whT (fT i.op.toNat).a (xr i.a), whT (fT i.op.toNat).b (xr i.b), whT ((fT i.op.toNat).imm != 0) (itoa i.imm), whT (fT i.op.toNat).csr (itoa i.csr)]) := by
    rw [someT_ops]; rfl
  generalize hT : printT i = txt at *
  clear hT hr
  generalize encW i = W at *
  generalize hk : i.op.toNat = k at *
  obtain ⟨op, rd, a, b, imm, csr, aq, rl⟩ := i
  simp only at *
  obtain rfl : op = (k : Int) := by omega
  clear hk h3 h4 hf
  have HE := Lib.hid hE
  have HV := Lib.hid he
  have HP := Lib.hid hP
  have HSAY := Lib.hid (fun w he => says_any k w he)
  generalize (fT k).rd = q1 at *
  generalize (fT k).a = q2 at *
  generalize (fT k).b = q3 at *
  generalize ((fT k).imm != 0) = q4 at *
  generalize (fT k).csr = q5 at *
  have hnl := name_short k (by omega)
  have hml := mark_short aq rl
  have tNM := fun w => nameP k h1 h2 w
  have tMK := fun w => marks_any ⟨(k : Int), rd, a, b, imm, csr, aq, rl⟩ w
  have t1 := fun w he => registerText_any rd (by omega) (by omega) w he
  have t2 := fun w he => registerText_any a (by omega) (by omega) w he
  have t3 := fun w he => registerText_any b (by omega) (by omega) w he
  have t4 := fun w he => numberText_any imm (by omega) (by omega) w he
  have t5 := fun w he => numberText_any csr (by omega) (by omega) w he
  have l1 := itoa_length_le rd (by omega) (by omega)
  have l2 := itoa_length_le a (by omega) (by omega)
  have l3 := itoa_length_le b (by omega) (by omega)
  have l4 := itoa_length_le imm (by omega) (by omega)
  have l5 := itoa_length_le csr (by omega) (by omega)
  have tWR : ∀ (w : World) (g cap : Nat), (∀ j, j < 5 → w.cell? ⟨g, j, none⟩ = some (str (([whT q1 (xr rd), whT q2 (xr a), whT q3 (xr b), whT q4 (itoa imm), whT q5 (itoa csr)] : List Bs).getD j []))) → Calls Tryz.prog 24 #[.string ((⟨(nameB k).toArray⟩ : ByteArray) ++ ⟨(markT aq rl).toArray⟩), .slice (some ⟨g, 0, none⟩) 5 cap] w fun e w' => e = .returned (str txt) ∧ Below w.heap.size w w' := fun w g cap hc => by
    rw [str_cat, HP.out]
    refine writeL _ [whT q1 (xr rd), whT q2 (xr a), whT q3 (xr b), whT q4 (itoa imm), whT q5 (itoa csr)] g cap w (by simp) ?_ hc
    have w1 := whT_len q1 (xr rd); have w2 := whT_len q2 (xr a); have w3 := whT_len q3 (xr b); have w4 := whT_len q4 (itoa imm); have w5 := whT_len q5 (itoa csr)
    simp only [List.length_append, List.map_cons, List.map_nil, List.sum_cons, List.sum_nil]
    simp only [xr, List.length_cons] at w1 w2 w3 ⊢
    omega
  have tw1 := fun w => where_any q1 (xr rd) w
  have tw2 := fun w => where_any q2 (xr a) w
  have tw3 := fun w => where_any q3 (xr b) w
  have tw4 := fun w => where_any q4 (itoa imm) w
  have tw5 := fun w => where_any q5 (itoa csr) w
  have HWR := Lib.hid tWR
  have HW1 := Lib.hid tw1; have HW2 := Lib.hid tw2; have HW3 := Lib.hid tw3; have HW4 := Lib.hid tw4; have HW5 := Lib.hid tw5
  clear hE he hP p1 p2 p3 p4 hI l1 l2 l3 l4 l5 tWR tw1 tw2 tw3 tw4 tw5 HP h1 h2
  generalize whT q1 (xr rd) = o1 at *
  generalize whT q2 (xr a) = o2 at *
  generalize whT q3 (xr b) = o3 at *
  generalize whT q4 (itoa imm) = o4 at *
  generalize whT q5 (itoa csr) = o5 at *
  generalize nameB k = nm at *
  generalize hmk : markT aq rl = mk at *
  go_enter Tryz.func10, Tryz.ntmps10
  go_wp2_with (fail)
  (with_reducible refine (HE.out _ (HV.out.below ((Below.refl _ _).alloc (Nat.le_refl _) _))).mono ?_)
  rintro e w1 ⟨rfl, hb1⟩
  have HI : Hid (w1.heap[w.heap.size]? = some (.cells #[.int .i64 k, .int .i64 rd, .int .i64 a, .int .i64 b, .int .i64 imm, .int .i64 csr, .bool aq, .bool rl] 23 (0, 0))) := Lib.hid ((hb1.block _ (by simp)).trans (heap_alloc_new _ _))
  have hz1 : w.heap.size < w1.heap.size := by have := hb1.size; simp at this; omega
  have HB := Lib.hid (((Below.refl _ _).alloc (Nat.le_refl _) (.cells #[.int .i64 k, .int .i64 rd, .int .i64 a, .int .i64 b, .int .i64 imm, .int .i64 csr, .bool aq, .bool rl] 23)).trans (hb1.mono (by simp)))
  have hc0 : w1.cell? ⟨w.heap.size, 0, none⟩ = some (.int .i64 k) := by rw [Lib.cell_of_heap HI.out]; rfl
  clear hb1
  go_wp2_with (fail)
  (with_reducible refine (HSAY.out _ (HV.out.below HB.out)).mono ?_)
  rintro e w2 ⟨rfl, hb2⟩
  have HI2 : Hid (w2.heap[w.heap.size]? = some (.cells #[.int .i64 k, .int .i64 rd, .int .i64 a, .int .i64 b, .int .i64 imm, .int .i64 csr, .bool aq, .bool rl] 23 (0, 0))) := Lib.hid ((hb2.block _ hz1).trans HI.out)
  have hz2 : w.heap.size < w2.heap.size := by have := hb2.size; omega
  have HB2 := Lib.hid (HB.out.trans (hb2.mono (by omega)))
  clear hb2 hc0 hz1 HI HB
  go_wp2_with (refine wpList_store_row rfl _ _ _ rfl w2.heap.size _ rfl rfl 51 _ (heap_alloc_new w2 _) size_said rfl (by simp [Value.oneCell']) ?_; refine Hid.out ?_)
  have HI3 : Hid (((w2.alloc (.cells #[.bool false, .bool false, .bool false, .bool false, .bool false] 51)).setRow w2.heap.size #[.bool q1, .bool q2, .bool q3, .bool q4, .bool q5]).heap[w.heap.size]? = some (.cells #[.int .i64 k, .int .i64 rd, .int .i64 a, .int .i64 b, .int .i64 imm, .int .i64 csr, .bool aq, .bool rl] 23 (0, 0))) := Lib.hid (by rw [setRow_other _ _ _ _ (by omega), Lib.alloc_old _ _ _ hz2]; exact HI2.out)
  have HS3 : Hid (((w2.alloc (.cells #[.bool false, .bool false, .bool false, .bool false, .bool false] 51)).setRow w2.heap.size #[.bool q1, .bool q2, .bool q3, .bool q4, .bool q5]).heap[w2.heap.size]? = some (.cells #[.bool q1, .bool q2, .bool q3, .bool q4, .bool q5] 51 (0, 0))) := Lib.hid (setRow_heap _ _ _ _ _ _ (heap_alloc_new w2 _))
  have HBW : Hid (Below w.heap.size w ((w2.alloc (.cells #[.bool false, .bool false, .bool false, .bool false, .bool false] 51)).setRow w2.heap.size #[.bool q1, .bool q2, .bool q3, .bool q4, .bool q5])) := Lib.hid (below_setRow (HB2.out.alloc HB2.out.size _) HB2.out.size _)
  generalize (w2.alloc (.cells #[.bool false, .bool false, .bool false, .bool false, .bool false] 51)).setRow w2.heap.size #[.bool q1, .bool q2, .bool q3, .bool q4, .bool q5] = w3 at *
  generalize hb6 : w2.heap.size = b6 at *
  generalize hb1 : w.heap.size = b1 at *
  have HNM := Lib.hid (fun (wx : World) (_ : Below w3.heap.size w3 wx) => tNM wx)
  have HMK := Lib.hid (fun (wx : World) (_ : Below w3.heap.size w3 wx) => tMK wx)
  have HEV : ∀ wx, Below w3.heap.size w3 wx → Env wx := fun wx hb => (HV.out.below (hb1 ▸ HBW.out)).below hb
  have HT1 := Lib.hid (fun (wx : World) (hb : Below w3.heap.size w3 wx) => t1 wx (HEV wx hb))
  have HT2 := Lib.hid (fun (wx : World) (hb : Below w3.heap.size w3 wx) => t2 wx (HEV wx hb))
  have HT3 := Lib.hid (fun (wx : World) (hb : Below w3.heap.size w3 wx) => t3 wx (HEV wx hb))
  have HT4 := Lib.hid (fun (wx : World) (hb : Below w3.heap.size w3 wx) => t4 wx (HEV wx hb))
  have HT5 := Lib.hid (fun (wx : World) (hb : Below w3.heap.size w3 wx) => t5 wx (HEV wx hb))
  have HCI : Hid (∀ wx, Below w3.heap.size w3 wx → wx.cell? ⟨b1, 0, none⟩ = some (.int .i64 k) ∧ wx.cell? ⟨b1, 1, none⟩ = some (.int .i64 rd) ∧ wx.cell? ⟨b1, 2, none⟩ = some (.int .i64 a) ∧ wx.cell? ⟨b1, 3, none⟩ = some (.int .i64 b) ∧ wx.cell? ⟨b1, 4, none⟩ = some (.int .i64 imm) ∧ wx.cell? ⟨b1, 5, none⟩ = some (.int .i64 csr) ∧ wx.cell? ⟨b1, 6, none⟩ = some (.bool aq) ∧ wx.cell? ⟨b1, 7, none⟩ = some (.bool rl)) := Lib.hid fun wx hb => by
    have h := (hb.block b1 (Array.getElem?_eq_some_iff.1 HI3.out).1).trans HI3.out
    refine ⟨?_, ?_, ?_, ?_, ?_, ?_, ?_, ?_⟩ <;> (rw [Lib.cell_of_heap h]; rfl)
  have HCS : Hid (∀ wx, Below w3.heap.size w3 wx → wx.cell? ⟨b6, 0, none⟩ = some (.bool q1) ∧ wx.cell? ⟨b6, 1, none⟩ = some (.bool q2) ∧ wx.cell? ⟨b6, 2, none⟩ = some (.bool q3) ∧ wx.cell? ⟨b6, 3, none⟩ = some (.bool q4) ∧ wx.cell? ⟨b6, 4, none⟩ = some (.bool q5)) := Lib.hid fun wx hb => by
    have h := (hb.block b6 (Array.getElem?_eq_some_iff.1 HS3.out).1).trans HS3.out
    refine ⟨?_, ?_, ?_, ?_, ?_⟩ <;> (rw [Lib.cell_of_heap h]; rfl)
  have HBE := Lib.hid hb1
  clear HEV t1 t2 t3 t4 t5 tNM tMK HI2 hz2 HB2 HI3 HS3 hb6 hb1 HSAY HE HV
  refine Lib.hid ?_
  go_wp2_with (fail)
  refine wp_region_held_drew (S := fun wx => Below w3.heap.size w3 wx) (by kernel_rfl) ((Below.refl _ _).drew) (fun hHeld0 => ?_)
  have HS := Lib.hid hHeld0
  clear hHeld0
  refine takeD (i := 0) (some 18) (v := ?_) rfl rfl (by kernel_rfl) (by kernel_rfl) (by kernel_rfl) (fun _ _ _ h => h) (by rfl) HS.out ?_ ?_
  rotate_left
  · intro wx hSx
    clear hSx
    go_simp
    try (with_reducible rfl)
  simp only [Act.put, List.setIfInBounds_toArray, List.set_cons_zero, List.set_cons_succ]
  refine takeD (i := 1) (some 19) (v := ?_) rfl rfl (by kernel_rfl) (by kernel_rfl) (by kernel_rfl) (fun _ _ _ h => h) (by rfl) HS.out ?_ ?_
  rotate_left
  · intro wx hSx
    obtain ⟨i0, i1, i2, i3, i4, i5, i6, i7⟩ := HCI.out wx hSx
    clear hSx
    go_simp
    try (with_reducible rfl)
  simp only [Act.put, List.setIfInBounds_toArray, List.set_cons_zero, List.set_cons_succ]
  refine takeD (i := 3) (some 21) (v := ?_) rfl rfl (by kernel_rfl) (by kernel_rfl) (by kernel_rfl) (fun _ _ _ h => h) (by rfl) HS.out ?_ ?_
  rotate_left
  · intro wx hSx
    obtain ⟨i0, i1, i2, i3, i4, i5, i6, i7⟩ := HCI.out wx hSx
    clear hSx
    go_simp
    try (with_reducible rfl)
  simp only [Act.put, List.setIfInBounds_toArray, List.set_cons_zero, List.set_cons_succ]
  refine takeD (i := 6) (some 24) (v := ?_) rfl rfl (by kernel_rfl) (by kernel_rfl) (by kernel_rfl) (fun _ _ _ h => h) (by rfl) HS.out ?_ ?_
  rotate_left
  · intro wx hSx
    clear hSx
    go_simp
    try (with_reducible rfl)
  simp only [Act.put, List.setIfInBounds_toArray, List.set_cons_zero, List.set_cons_succ]
  refine takeD (i := 7) (some 25) (v := ?_) rfl rfl (by kernel_rfl) (by kernel_rfl) (by kernel_rfl) (fun _ _ _ h => h) (by rfl) HS.out ?_ ?_
  rotate_left
  · intro wx hSx
    obtain ⟨s0, s1, s2, s3, s4⟩ := HCS.out wx hSx
    clear hSx
    go_simp
    try (with_reducible rfl)
  simp only [Act.put, List.setIfInBounds_toArray, List.set_cons_zero, List.set_cons_succ]
  refine takeD (i := 8) (some 26) (v := ?_) rfl rfl (by kernel_rfl) (by kernel_rfl) (by kernel_rfl) (fun _ _ _ h => h) (by rfl) HS.out ?_ ?_
  rotate_left
  · intro wx hSx
    clear hSx
    go_simp
    try (with_reducible rfl)
  simp only [Act.put, List.setIfInBounds_toArray, List.set_cons_zero, List.set_cons_succ]
  refine takeD (i := 9) (some 27) (v := ?_) rfl rfl (by kernel_rfl) (by kernel_rfl) (by kernel_rfl) (fun _ _ _ h => h) (by rfl) HS.out ?_ ?_
  rotate_left
  · intro wx hSx
    obtain ⟨i0, i1, i2, i3, i4, i5, i6, i7⟩ := HCI.out wx hSx
    clear hSx
    go_simp
    try (with_reducible rfl)
  simp only [Act.put, List.setIfInBounds_toArray, List.set_cons_zero, List.set_cons_succ]
  refine takeD (i := 12) (some 30) (v := ?_) rfl rfl (by kernel_rfl) (by kernel_rfl) (by kernel_rfl) (fun _ _ _ h => h) (by rfl) HS.out ?_ ?_
  rotate_left
  · intro wx hSx
    clear hSx
    go_simp
    try (with_reducible rfl)
  simp only [Act.put, List.setIfInBounds_toArray, List.set_cons_zero, List.set_cons_succ]
  refine takeD (i := 13) (some 31) (v := ?_) rfl rfl (by kernel_rfl) (by kernel_rfl) (by kernel_rfl) (fun _ _ _ h => h) (by rfl) HS.out ?_ ?_
  rotate_left
  · intro wx hSx
    obtain ⟨s0, s1, s2, s3, s4⟩ := HCS.out wx hSx
    clear hSx
    go_simp
    try (with_reducible rfl)
  simp only [Act.put, List.setIfInBounds_toArray, List.set_cons_zero, List.set_cons_succ]
  refine takeD (i := 14) (some 32) (v := ?_) rfl rfl (by kernel_rfl) (by kernel_rfl) (by kernel_rfl) (fun _ _ _ h => h) (by rfl) HS.out ?_ ?_
  rotate_left
  · intro wx hSx
    clear hSx
    go_simp
    try (with_reducible rfl)
  simp only [Act.put, List.setIfInBounds_toArray, List.set_cons_zero, List.set_cons_succ]
  refine takeD (i := 15) (some 33) (v := ?_) rfl rfl (by kernel_rfl) (by kernel_rfl) (by kernel_rfl) (fun _ _ _ h => h) (by rfl) HS.out ?_ ?_
  rotate_left
  · intro wx hSx
    obtain ⟨i0, i1, i2, i3, i4, i5, i6, i7⟩ := HCI.out wx hSx
    clear hSx
    go_simp
    try (with_reducible rfl)
  simp only [Act.put, List.setIfInBounds_toArray, List.set_cons_zero, List.set_cons_succ]
  refine takeD (i := 18) (some 36) (v := ?_) rfl rfl (by kernel_rfl) (by kernel_rfl) (by kernel_rfl) (fun _ _ _ h => h) (by rfl) HS.out ?_ ?_
  rotate_left
  · intro wx hSx
    clear hSx
    go_simp
    try (with_reducible rfl)
  simp only [Act.put, List.setIfInBounds_toArray, List.set_cons_zero, List.set_cons_succ]
  refine takeD (i := 19) (some 37) (v := ?_) rfl rfl (by kernel_rfl) (by kernel_rfl) (by kernel_rfl) (fun _ _ _ h => h) (by rfl) HS.out ?_ ?_
  rotate_left
  · intro wx hSx
    obtain ⟨s0, s1, s2, s3, s4⟩ := HCS.out wx hSx
    clear hSx
    go_simp
    try (with_reducible rfl)
  simp only [Act.put, List.setIfInBounds_toArray, List.set_cons_zero, List.set_cons_succ]
  refine takeD (i := 20) (some 38) (v := ?_) rfl rfl (by kernel_rfl) (by kernel_rfl) (by kernel_rfl) (fun _ _ _ h => h) (by rfl) HS.out ?_ ?_
  rotate_left
  · intro wx hSx
    clear hSx
    go_simp
    try (with_reducible rfl)
  simp only [Act.put, List.setIfInBounds_toArray, List.set_cons_zero, List.set_cons_succ]
  refine takeD (i := 21) (some 39) (v := ?_) rfl rfl (by kernel_rfl) (by kernel_rfl) (by kernel_rfl) (fun _ _ _ h => h) (by rfl) HS.out ?_ ?_
  rotate_left
  · intro wx hSx
    obtain ⟨i0, i1, i2, i3, i4, i5, i6, i7⟩ := HCI.out wx hSx
    clear hSx
    go_simp
    try (with_reducible rfl)
  simp only [Act.put, List.setIfInBounds_toArray, List.set_cons_zero, List.set_cons_succ]
  refine takeD (i := 24) (some 42) (v := ?_) rfl rfl (by kernel_rfl) (by kernel_rfl) (by kernel_rfl) (fun _ _ _ h => h) (by rfl) HS.out ?_ ?_
  rotate_left
  · intro wx hSx
    clear hSx
    go_simp
    try (with_reducible rfl)
  simp only [Act.put, List.setIfInBounds_toArray, List.set_cons_zero, List.set_cons_succ]
  refine takeD (i := 25) (some 43) (v := ?_) rfl rfl (by kernel_rfl) (by kernel_rfl) (by kernel_rfl) (fun _ _ _ h => h) (by rfl) HS.out ?_ ?_
  rotate_left
  · intro wx hSx
    obtain ⟨s0, s1, s2, s3, s4⟩ := HCS.out wx hSx
    clear hSx
    go_simp
    try (with_reducible rfl)
  simp only [Act.put, List.setIfInBounds_toArray, List.set_cons_zero, List.set_cons_succ]
  refine takeD (i := 26) (some 44) (v := ?_) rfl rfl (by kernel_rfl) (by kernel_rfl) (by kernel_rfl) (fun _ _ _ h => h) (by rfl) HS.out ?_ ?_
  rotate_left
  · intro wx hSx
    clear hSx
    go_simp
    try (with_reducible rfl)
  simp only [Act.put, List.setIfInBounds_toArray, List.set_cons_zero, List.set_cons_succ]
  refine takeD (i := 27) (some 45) (v := ?_) rfl rfl (by kernel_rfl) (by kernel_rfl) (by kernel_rfl) (fun _ _ _ h => h) (by rfl) HS.out ?_ ?_
  rotate_left
  · intro wx hSx
    obtain ⟨i0, i1, i2, i3, i4, i5, i6, i7⟩ := HCI.out wx hSx
    clear hSx
    go_simp
    try (with_reducible rfl)
  simp only [Act.put, List.setIfInBounds_toArray, List.set_cons_zero, List.set_cons_succ]
  refine takeD (i := 30) (some 48) (v := ?_) rfl rfl (by kernel_rfl) (by kernel_rfl) (by kernel_rfl) (fun _ _ _ h => h) (by rfl) HS.out ?_ ?_
  rotate_left
  · intro wx hSx
    clear hSx
    go_simp
    try (with_reducible rfl)
  simp only [Act.put, List.setIfInBounds_toArray, List.set_cons_zero, List.set_cons_succ]
  refine takeD (i := 31) (some 49) (v := ?_) rfl rfl (by kernel_rfl) (by kernel_rfl) (by kernel_rfl) (fun _ _ _ h => h) (by rfl) HS.out ?_ ?_
  rotate_left
  · intro wx hSx
    obtain ⟨s0, s1, s2, s3, s4⟩ := HCS.out wx hSx
    clear hSx
    go_simp
    try (with_reducible rfl)
  simp only [Act.put, List.setIfInBounds_toArray, List.set_cons_zero, List.set_cons_succ]
  refine takeD (i := 32) (some 50) (v := ?_) rfl rfl (by kernel_rfl) (by kernel_rfl) (by kernel_rfl) (fun _ _ _ h => h) (by rfl) HS.out ?_ ?_
  rotate_left
  · intro wx hSx
    clear hSx
    go_simp
    try (with_reducible rfl)
  simp only [Act.put, List.setIfInBounds_toArray, List.set_cons_zero, List.set_cons_succ]
  refine takeD (i := 33) (some 51) (v := ?_) rfl rfl (by kernel_rfl) (by kernel_rfl) (by kernel_rfl) (fun _ _ _ h => h) (by rfl) HS.out ?_ ?_
  rotate_left
  · intro wx hSx
    obtain ⟨i0, i1, i2, i3, i4, i5, i6, i7⟩ := HCI.out wx hSx
    clear hSx
    go_simp
    try (with_reducible rfl)
  simp only [Act.put, List.setIfInBounds_toArray, List.set_cons_zero, List.set_cons_succ]
  refine wpAnyH_ready (rs := [2]) (by kernel_rfl) (by simp) ?_
  refine AllReadyH.cons rfl (fun K hK => ?_) AllReadyH.nil
  go_simp
  (with_reducible refine (HNM.out _ HS.out).mono ?_)
  rintro e wq1 ⟨rfl, hbq⟩
  have HB1 : Hid (Below w3.heap.size w3 wq1) := Lib.hid (HS.out.trans (hbq.mono HS.out.size))
  clear hbq
  go_simp
  refine hK.out _ _ ?_ (fun hHeld => ?_)
  · exact HB1.out
  clear hHeld hK K
  try simp only [Act.put, List.setIfInBounds_toArray, List.set_cons_zero, List.set_cons_succ]
  replace HS := HB1
  refine wpAnyH_ready (rs := [4]) (by kernel_rfl) (by simp) ?_
  refine AllReadyH.cons rfl (fun K hK => ?_) AllReadyH.nil
  go_simp
  (with_reducible refine (HMK.out _ HS.out).mono ?_)
  rintro e wq2 ⟨rfl, hbq⟩
  have HB2 : Hid (Below w3.heap.size w3 wq2) := Lib.hid (HS.out.trans (hbq.mono HS.out.size))
  clear hbq
  go_simp
  refine hK.out _ _ ?_ (fun hHeld => ?_)
  · exact HB2.out
  clear hHeld hK K
  try simp only [Act.put, List.setIfInBounds_toArray, List.set_cons_zero, List.set_cons_succ]
  replace HS := HB2
  refine takeD (i := 5) (some 23) (v := ?_) rfl rfl (by kernel_rfl) (by kernel_rfl) (by kernel_rfl) (fun _ _ _ h => h) (by rfl) HS.out ?_ ?_
  rotate_left
  · intro wx hSx
    have hln : ¬ (9223372036854775807 < List.length nm + List.length mk) := by omega
    clear hSx
    go_simp
    try (with_reducible rfl)
  simp only [Act.put, List.setIfInBounds_toArray, List.set_cons_zero, List.set_cons_succ]
  refine wpAnyH_ready (rs := [10]) (by kernel_rfl) (by simp) ?_
  refine AllReadyH.cons rfl (fun K hK => ?_) AllReadyH.nil
  go_simp
  (with_reducible refine (HT1.out _ HS.out).mono ?_)
  rintro e wq3 ⟨rfl, hbq⟩
  have HB3 : Hid (Below w3.heap.size w3 wq3) := Lib.hid (HS.out.trans (hbq.mono HS.out.size))
  clear hbq
  go_simp
  refine hK.out _ _ ?_ (fun hHeld => ?_)
  · exact HB3.out
  clear hHeld hK K
  try simp only [Act.put, List.setIfInBounds_toArray, List.set_cons_zero, List.set_cons_succ]
  replace HS := HB3
  refine wpAnyH_ready (rs := [11]) (by kernel_rfl) (by simp) ?_
  refine AllReadyH.cons rfl (fun K hK => ?_) AllReadyH.nil
  go_simp
  (with_reducible refine (HW1.out _).mono ?_)
  rintro e wq4 ⟨rfl, rfl⟩
  go_simp
  refine hK.out _ _ ?_ (fun hHeld => ?_)
  · exact HS.out
  clear hHeld hK K
  try simp only [Act.put, List.setIfInBounds_toArray, List.set_cons_zero, List.set_cons_succ]
  refine wpAnyH_ready (rs := [16]) (by kernel_rfl) (by simp) ?_
  refine AllReadyH.cons rfl (fun K hK => ?_) AllReadyH.nil
  go_simp
  (with_reducible refine (HT2.out _ HS.out).mono ?_)
  rintro e wq5 ⟨rfl, hbq⟩
  have HB5 : Hid (Below w3.heap.size w3 wq5) := Lib.hid (HS.out.trans (hbq.mono HS.out.size))
  clear hbq
  go_simp
  refine hK.out _ _ ?_ (fun hHeld => ?_)
  · exact HB5.out
  clear hHeld hK K
  try simp only [Act.put, List.setIfInBounds_toArray, List.set_cons_zero, List.set_cons_succ]
  replace HS := HB5
  refine wpAnyH_ready (rs := [17]) (by kernel_rfl) (by simp) ?_
  refine AllReadyH.cons rfl (fun K hK => ?_) AllReadyH.nil
  go_simp
  (with_reducible refine (HW2.out _).mono ?_)
  rintro e wq6 ⟨rfl, rfl⟩
  go_simp
  refine hK.out _ _ ?_ (fun hHeld => ?_)
  · exact HS.out
  clear hHeld hK K
  try simp only [Act.put, List.setIfInBounds_toArray, List.set_cons_zero, List.set_cons_succ]
  refine wpAnyH_ready (rs := [22]) (by kernel_rfl) (by simp) ?_
  refine AllReadyH.cons rfl (fun K hK => ?_) AllReadyH.nil
  go_simp
  (with_reducible refine (HT3.out _ HS.out).mono ?_)
  rintro e wq7 ⟨rfl, hbq⟩
  have HB7 : Hid (Below w3.heap.size w3 wq7) := Lib.hid (HS.out.trans (hbq.mono HS.out.size))
  clear hbq
  go_simp
  refine hK.out _ _ ?_ (fun hHeld => ?_)
  · exact HB7.out
  clear hHeld hK K
  try simp only [Act.put, List.setIfInBounds_toArray, List.set_cons_zero, List.set_cons_succ]
  replace HS := HB7
  refine wpAnyH_ready (rs := [23]) (by kernel_rfl) (by simp) ?_
  refine AllReadyH.cons rfl (fun K hK => ?_) AllReadyH.nil
  go_simp
  (with_reducible refine (HW3.out _).mono ?_)
  rintro e wq8 ⟨rfl, rfl⟩
  go_simp
  refine hK.out _ _ ?_ (fun hHeld => ?_)
  · exact HS.out
  clear hHeld hK K
  try simp only [Act.put, List.setIfInBounds_toArray, List.set_cons_zero, List.set_cons_succ]
  refine wpAnyH_ready (rs := [28]) (by kernel_rfl) (by simp) ?_
  refine AllReadyH.cons rfl (fun K hK => ?_) AllReadyH.nil
  go_simp
  (with_reducible refine (HT4.out _ HS.out).mono ?_)
  rintro e wq9 ⟨rfl, hbq⟩
  have HB9 : Hid (Below w3.heap.size w3 wq9) := Lib.hid (HS.out.trans (hbq.mono HS.out.size))
  clear hbq
  go_simp
  refine hK.out _ _ ?_ (fun hHeld => ?_)
  · exact HB9.out
  clear hHeld hK K
  try simp only [Act.put, List.setIfInBounds_toArray, List.set_cons_zero, List.set_cons_succ]
  replace HS := HB9
  refine wpAnyH_ready (rs := [29]) (by kernel_rfl) (by simp) ?_
  refine AllReadyH.cons rfl (fun K hK => ?_) AllReadyH.nil
  go_simp
  (with_reducible refine (HW4.out _).mono ?_)
  rintro e wq10 ⟨rfl, rfl⟩
  go_simp
  refine hK.out _ _ ?_ (fun hHeld => ?_)
  · exact HS.out
  clear hHeld hK K
  try simp only [Act.put, List.setIfInBounds_toArray, List.set_cons_zero, List.set_cons_succ]
  refine wpAnyH_ready (rs := [34]) (by kernel_rfl) (by simp) ?_
  refine AllReadyH.cons rfl (fun K hK => ?_) AllReadyH.nil
  go_simp
  (with_reducible refine (HT5.out _ HS.out).mono ?_)
  rintro e wq11 ⟨rfl, hbq⟩
  have HB11 : Hid (Below w3.heap.size w3 wq11) := Lib.hid (HS.out.trans (hbq.mono HS.out.size))
  clear hbq
  go_simp
  refine hK.out _ _ ?_ (fun hHeld => ?_)
  · exact HB11.out
  clear hHeld hK K
  try simp only [Act.put, List.setIfInBounds_toArray, List.set_cons_zero, List.set_cons_succ]
  replace HS := HB11
  refine wpAnyH_ready (rs := [35]) (by kernel_rfl) (by simp) ?_
  refine AllReadyH.cons rfl (fun K hK => ?_) AllReadyH.nil
  go_simp
  (with_reducible refine (HW5.out _).mono ?_)
  rintro e wq12 ⟨rfl, rfl⟩
  go_simp
  refine hK.out _ _ ?_ (fun hHeld => ?_)
  · exact HS.out
  clear hHeld hK K
  try simp only [Act.put, List.setIfInBounds_toArray, List.set_cons_zero, List.set_cons_succ]
  refine wpAnyH_ready (rs := [36]) (by kernel_rfl) (by simp) ?_
  refine AllReadyH.cons rfl (fun K hK => ?_) AllReadyH.nil
  go_simp
  refine hK.out _ _ ?_ (fun hHeld => ?_)
  · exact HS.out.alloc HS.out.size _
  replace HS : Hid (Below w3.heap.size w3 _) := Lib.hid hHeld
  clear hHeld hK K
  try simp only [Act.put, List.setIfInBounds_toArray, List.set_cons_zero, List.set_cons_succ]
  refine wpAnyH_ready (rs := [37]) (by kernel_rfl) (by simp) ?_
  refine AllReadyH.cons rfl (fun K hK => ?_) AllReadyH.nil
  go_simp
  (with_reducible refine (HWR.out _ _ _ ?hw).mono ?_)
  case hw =>
    intro j hj
    have hj5 : j = 0 ∨ j = 1 ∨ j = 2 ∨ j = 3 ∨ j = 4 := by omega
    rcases hj5 with rfl | rfl | rfl | rfl | rfl <;> (rw [World.cell?_alloc_at _ _ _ _ (by simp)]; rfl)
  rintro e wr ⟨rfl, hbr⟩
  have HBR : Hid (Below w3.heap.size w3 wr) := Lib.hid (HS.out.trans (hbr.mono HS.out.size))
  clear hbr
  go_simp
  refine hK.out _ _ ?_ (fun hHeld => ?_)
  · exact HBR.out
  clear hHeld hK K
  try simp only [Act.put, List.setIfInBounds_toArray, List.set_cons_zero, List.set_cons_succ]
  replace HS := HBR
  refine takeD (i := 38) (some 2) (v := ?_) rfl rfl (by kernel_rfl) (by kernel_rfl) (by kernel_rfl) (fun _ _ _ h => h) (by rfl) HS.out ?_ ?_
  rotate_left
  · intro wx hSx
    clear hSx
    go_simp
    try (with_reducible rfl)
  simp only [Act.put, List.setIfInBounds_toArray, List.set_cons_zero, List.set_cons_succ]
  refine takeD (i := 39) (some 3) (v := ?_) rfl rfl (by kernel_rfl) (by kernel_rfl) (by kernel_rfl) (fun _ _ _ h => h) (by rfl) HS.out ?_ ?_
  rotate_left
  · intro wx hSx
    clear hSx
    go_simp
    try (with_reducible rfl)
  simp only [Act.put, List.setIfInBounds_toArray, List.set_cons_zero, List.set_cons_succ]
  refine wpAnyH_done (by kernel_rfl) ?_ _
  go_wp2
  go_ret2
  refine ⟨rfl, ?_⟩
  have e1 : w.heap.size = b1 := HBE.out
  have e2 := HBW.out.size
  rw [e1] at e2 ⊢
  exact HBW.out.trans (HBR.out.mono e2)

end Go.Proofs.YtakdhdaoklcidaaGreatDoor

namespace Go.Proofs.YtakdhdaoklcidaaGreatDoor
open Go.RowKit Go.Lib
set_option linter.unusedVariables false
set_option maxRecDepth 100000

theorem results_cell_tmp {P : Program} {fn : Func} {p q : Tmp} {ty : TypeId} (h : fn.results = #[.cell p ty, .tmp q]) (tmps : Array Value) (w : World) (g : Nat) (t : TypeId) (cs : Array Value) (fr : Nat × Nat) (d : TypeDesc)
    (hp : tmps.getD p undef = .pointer (some ⟨g, 0, none⟩)) (hg : w.heap[g]? = some (.cells cs t fr))
    (hu : P.underlying ty = some d) (hd : (match d with | .struct _ | .array _ _ => true | _ => false) = true) (hi : (P.info? ty).map (·.size) = some cs.size) :
    (results fn tmps).run P w = .ok (.tuple #[.agg cs, tmps.getD q undef]) w := by
  have hp' : tmps[p]?.getD undef = .pointer (some ⟨g, 0, none⟩) := by simpa using hp
  simp [results, h, hp', asAddr, run_loadVar_row w g t ty cs fr d hg hu hd hi]
theorem opF_L (l : Bs) : opF ⟨l.toArray⟩ = opL l := by
  unfold opF opL
  congr 2
  funext j
  congr 1
  unfold sameT nameT nameB
  rw [ByteArray.toList_eq, ByteArray.toList_eq]
theorem opP (l : Bs) (w : World) : Calls Tryz.prog 37 #[str l] w fun e w' => e = .returned (.int .i64 (opL l)) ∧ Below w.heap.size w w' := by
  have h := op_is ⟨l.toArray⟩ w
  rw [opF_L] at h; exact h
theorem setCell_row {w : World} {b : Nat} {cs : Array Value} {t : TypeId} {fr : Nat × Nat} (h : w.heap[b]? = some (.cells cs t fr)) (j : Nat) (v : Value) : (w.setCell ⟨b, j, none⟩ v).heap[b]? = some (.cells (cs.setIfInBounds j v) t fr) := by
  simp [World.setCell, Array.getElem?_modify, h]

/-- What stands while a line is read: the instruction, what is left, the closure, what the Op has, the result. -/
structure PS (w wx : World) (bi bl bn bs br : Nat) (i : Ins) (rest : Bs) (q1 q2 q3 q4 q5 : Bool) : Prop where
  inst : wx.heap[bi]? = some (.cells #[.int .i64 i.op, .int .i64 i.rd, .int .i64 i.a, .int .i64 i.b, .int .i64 i.imm, .int .i64 i.csr, .bool i.aq, .bool i.rl] 23 (0, 0))
  left : BoxS wx bl rest
  next : wx.heap[bn]? = some (.cells #[nextV bl] 108 (0, 0))
  said : wx.heap[bs]? = some (.cells #[.bool q1, .bool q2, .bool q3, .bool q4, .bool q5] 51 (0, 0))
  res : wx.heap[br]? = some (.cells #[.int .i64 0, .int .i64 0, .int .i64 0, .int .i64 0, .int .i64 0, .int .i64 0, .bool false, .bool false] 23 (0, 0))
  len : rest.length ≤ 1000000
  bel : Below w.heap.size w wx
  low : w.heap.size ≤ br ∧ br < bl ∧ bl < bn ∧ bn < bi ∧ bi < bs
section
variable {w wx : World} {bi bl bn bs br : Nat} {i : Ins} {rest : Bs} {q1 q2 q3 q4 q5 : Bool}
theorem PS.env (h : PS w wx bi bl bn bs br i rest q1 q2 q3 q4 q5) (he : Env w) : ∀ w', Only (fun k => k = bl) wx w' → Env w' := fun w' ho => by
  have hl := h.low
  exact he.below (Below.thenOnly h.bel ho (by intro k hk; omega) h.bel.size)
theorem PS.cutt (h : PS w wx bi bl bn bs br i rest q1 q2 q3 q4 q5) {w' : World} {r : Bs} (hr : r.length ≤ 1000000) (hb : BoxS w' bl r) (ho : Only (fun k => k = bl) wx w') : PS w w' bi bl bn bs br i r q1 q2 q3 q4 q5 := by
  have hl := h.low
  exact ⟨ho.keeps (by omega) h.inst, hb, ho.keeps (by omega) h.next, ho.keeps (by omega) h.said, ho.keeps (by omega) h.res, hr, Below.thenOnly h.bel ho (by intro k hk; omega) h.bel.size, hl⟩
theorem PS.reg (h : PS w wx bi bl bn bs br i rest q1 q2 q3 q4 q5) (he : Env w) : Calls Tryz.prog 64 #[.pointer (some ⟨bn, 0, none⟩)] wx fun e w' => e = .returned (.int .i64 (regP (cut rest sepC).1)) ∧ PS w w' bi bl bn bs br i (cut rest sepC).2.1 q1 q2 q3 q4 q5 := by
  refine (reg_any bn bl rest wx (h.env he) h.len (by rw [Lib.cell_of_heap h.next]; rfl) h.left).mono ?_
  rintro e w' ⟨rfl, h1, h2⟩
  exact ⟨rfl, h.cutt (Nat.le_trans (cut_len rest sepC).2 h.len) h1 h2⟩
theorem PS.num (h : PS w wx bi bl bn bs br i rest q1 q2 q3 q4 q5) (he : Env w) : Calls Tryz.prog 67 #[.pointer (some ⟨bn, 0, none⟩)] wx fun e w' => e = .returned (.int .i64 (numP (cut rest sepC).1)) ∧ PS w w' bi bl bn bs br i (cut rest sepC).2.1 q1 q2 q3 q4 q5 := by
  refine (num_any bn bl rest wx (h.env he) h.len (by rw [Lib.cell_of_heap h.next]; rfl) h.left).mono ?_
  rintro e w' ⟨rfl, h1, h2⟩
  exact ⟨rfl, h.cutt (Nat.le_trans (cut_len rest sepC).2 h.len) h1 h2⟩
theorem PS.set (h : PS w wx bi bl bn bs br i rest q1 q2 q3 q4 q5) (k : Ins) (j : Nat) (v : Value) (hk : (#[.int .i64 i.op, .int .i64 i.rd, .int .i64 i.a, .int .i64 i.b, .int .i64 i.imm, .int .i64 i.csr, .bool i.aq, .bool i.rl] : Array Value).setIfInBounds j v = #[.int .i64 k.op, .int .i64 k.rd, .int .i64 k.a, .int .i64 k.b, .int .i64 k.imm, .int .i64 k.csr, .bool k.aq, .bool k.rl]) : PS w (wx.setCell ⟨bi, j, none⟩ v) bi bl bn bs br k rest q1 q2 q3 q4 q5 := by
  have hl := h.low
  have ho : Only (fun k => k = bi) wx (wx.setCell ⟨bi, j, none⟩ v) := (Only.refl (fun k => k = bi) wx).setCell (p := ⟨bi, j, none⟩) (.inl rfl) v
  exact ⟨by rw [← hk]; exact setCell_row h.inst j v, ho.keeps (by omega) h.left, ho.keeps (by omega) h.next, ho.keeps (by omega) h.said, ho.keeps (by omega) h.res, h.len, h.bel.setCell (p := ⟨bi, j, none⟩) (by show w.heap.size ≤ bi; omega) v, hl⟩
theorem PS.put1 (h : PS w wx bi bl bn bs br i rest q1 q2 q3 q4 q5) (n : Int) : PS w (wx.setCell ⟨bi, 1, none⟩ (.int .i64 n)) bi bl bn bs br { i with rd := n } rest q1 q2 q3 q4 q5 := h.set { i with rd := n } 1 (.int .i64 n) rfl
theorem PS.put2 (h : PS w wx bi bl bn bs br i rest q1 q2 q3 q4 q5) (n : Int) : PS w (wx.setCell ⟨bi, 2, none⟩ (.int .i64 n)) bi bl bn bs br { i with a := n } rest q1 q2 q3 q4 q5 := h.set { i with a := n } 2 (.int .i64 n) rfl
theorem PS.put3 (h : PS w wx bi bl bn bs br i rest q1 q2 q3 q4 q5) (n : Int) : PS w (wx.setCell ⟨bi, 3, none⟩ (.int .i64 n)) bi bl bn bs br { i with b := n } rest q1 q2 q3 q4 q5 := h.set { i with b := n } 3 (.int .i64 n) rfl
theorem PS.put4 (h : PS w wx bi bl bn bs br i rest q1 q2 q3 q4 q5) (n : Int) : PS w (wx.setCell ⟨bi, 4, none⟩ (.int .i64 n)) bi bl bn bs br { i with imm := n } rest q1 q2 q3 q4 q5 := h.set { i with imm := n } 4 (.int .i64 n) rfl
theorem PS.put5 (h : PS w wx bi bl bn bs br i rest q1 q2 q3 q4 q5) (n : Int) : PS w (wx.setCell ⟨bi, 5, none⟩ (.int .i64 n)) bi bl bn bs br { i with csr := n } rest q1 q2 q3 q4 q5 := h.set { i with csr := n } 5 (.int .i64 n) rfl
theorem PS.cell (h : PS w wx bi bl bn bs br i rest q1 q2 q3 q4 q5) : wx.cell? ⟨bi, 1, none⟩ = some (.int .i64 i.rd) ∧ wx.cell? ⟨bi, 2, none⟩ = some (.int .i64 i.a) ∧ wx.cell? ⟨bi, 3, none⟩ = some (.int .i64 i.b) ∧ wx.cell? ⟨bi, 4, none⟩ = some (.int .i64 i.imm) ∧ wx.cell? ⟨bi, 5, none⟩ = some (.int .i64 i.csr) ∧ ∀ j, wx.frozen? ⟨bi, j, none⟩ = false := by
  refine ⟨?_, ?_, ?_, ?_, ?_, fun j => Lib.frozen_of_heap h.inst j⟩ <;> (rw [Lib.cell_of_heap h.inst]; rfl)
theorem PS.flag (h : PS w wx bi bl bn bs br i rest q1 q2 q3 q4 q5) : wx.cell? ⟨bs, 0, none⟩ = some (.bool q1) ∧ wx.cell? ⟨bs, 1, none⟩ = some (.bool q2) ∧ wx.cell? ⟨bs, 2, none⟩ = some (.bool q3) ∧ wx.cell? ⟨bs, 3, none⟩ = some (.bool q4) ∧ wx.cell? ⟨bs, 4, none⟩ = some (.bool q5) := by
  refine ⟨?_, ?_, ?_, ?_, ?_⟩ <;> (rw [Lib.cell_of_heap h.said]; rfl)
end

end Go.Proofs.YtakdhdaoklcidaaGreatDoor

namespace Go.Proofs.YtakdhdaoklcidaaGreatDoor
open Go.RowKit Go.Lib
set_option linter.unusedVariables false
set_option maxRecDepth 100000

abbrev Pst (w wx : World) (i : Ins) (rest : Bs) (q1 q2 q3 q4 q5 : Bool) (bi bs : Nat) : Prop := PS w wx bi (w.heap.size + 1) (w.heap.size + 2) bs w.heap.size i rest q1 q2 q3 q4 q5

set_option maxHeartbeats 4000000 in
theorem parse_gen (l : Bs) (hl : l.length ≤ 1000000) (G : Ins) (hG : guessP l = G) (RI : Ins) (RE : Int) (c : Bool)
    (hc : c = (rightB G && (printT G == l))) (hRI : RI = if c then G else insZ) (hRE : RE = if c then 0 else 100) (w : World) (he : Env w) :
    Calls Tryz.prog 13 #[str l] w fun e w' => e = .returned (.tuple #[insV RI, .int .i64 RE]) ∧ Below w.heap.size w w' := by
  have hCUT : ∀ w, Env w → Calls Tryz.prog 34 #[str l, .string ⟨#[32]⟩] w fun e w' => e = .returned (.tuple #[str (cut l [32]).1, str (cut l [32]).2.1, .bool (cut l [32]).2.2]) ∧ Below w.heap.size w w' := fun w he => cutP l [32] w hl he
  have hcl := cut_len l [32]
  have hUN : ∀ w, Calls Tryz.prog 36 #[str (cut l [32]).1] w fun e w' => e = .returned (.tuple #[str (unmark (cut l [32]).1).1, .bool (unmark (cut l [32]).1).2.1, .bool (unmark (cut l [32]).1).2.2]) ∧ w = w' := fun w => unmark_any _ w (by omega)
  have hOP : ∀ w, Calls Tryz.prog 37 #[str (unmark (cut l [32]).1).1] w fun e w' => e = .returned (.int .i64 (opL (unmark (cut l [32]).1).1)) ∧ Below w.heap.size w w' := fun w => opP _ w
  have hRD : ∀ w, _ := fun w => reader_any (cut l [32]).2.1 w
  have hGE : guessP l = (let n := unmark (cut l [32]).1
    let f := fT (opL n.1)
    let r1 := rdOp f.rd regP (cut l [32]).2.1
    let r2 := rdOp f.a regP r1.2
    let r3 := rdOp f.b regP r2.2
    let r4 := rdOp (f.imm != 0) numP r3.2
    let r5 := rdOp f.csr numP r4.2
    (⟨opL n.1, r1.1, r2.1, r3.1, r4.1, r5.1, n.2.1, n.2.2⟩ : Ins)) := rfl
  rw [hGE] at hG
  simp only [] at hG
  have hR0 : (cut l [32]).2.1.length ≤ 1000000 := by omega
  have hSY : ∀ w, Env w → _ := fun w he => says_any (opL (unmark (cut l [32]).1).1) w he
  have HSY := Lib.hid hSY
  generalize (cut l [32]).2.1 = r0 at *
  generalize (cut l [32]).2.2 = qq at *
  generalize (unmark (cut l [32]).1).1 = nm at *
  generalize (unmark (cut l [32]).1).2.1 = aq at *
  generalize (unmark (cut l [32]).1).2.2 = rl at *
  generalize (cut l [32]).1 = n0 at *
  generalize opL nm = k at *
  generalize (fT k).rd = q1 at *
  generalize (fT k).a = q2 at *
  generalize (fT k).b = q3 at *
  generalize ((fT k).imm != 0) = q4 at *
  generalize (fT k).csr = q5 at *
  have HCUT := Lib.hid hCUT; have HUN := Lib.hid hUN; have HOP := Lib.hid hOP; have HRD := Lib.hid hRD; have HE := Lib.hid he; have HG := Lib.hid hG
  have HC := Lib.hid hc; have HRI := Lib.hid hRI; have HRE := Lib.hid hRE; have HR0 := Lib.hid hR0
  clear hCUT hUN hOP hRD he hG hGE hl hcl hc hRI hRE hR0 hSY
  go_enter Tryz.func13, Tryz.ntmps13
  go_wp2_with (fail)
  (with_reducible refine (HCUT.out _ (HE.out.below ((Below.refl _ _).alloc (Nat.le_refl _) _))).mono ?_)
  rintro e w1 ⟨rfl, hb1⟩
  have HB1 := Lib.hid (((Below.refl _ _).alloc (Nat.le_refl _) (.cells #[.int .i64 0, .int .i64 0, .int .i64 0, .int .i64 0, .int .i64 0, .int .i64 0, .bool false, .bool false] 23)).trans (hb1.mono (by simp)))
  have HR1 : Hid (w1.heap[w.heap.size]? = some (.cells #[.int .i64 0, .int .i64 0, .int .i64 0, .int .i64 0, .int .i64 0, .int .i64 0, .bool false, .bool false] 23 (0, 0))) := Lib.hid ((hb1.block _ (by simp)).trans (heap_alloc_new _ _))
  have HZ1 : Hid (w.heap.size < w1.heap.size) := Lib.hid (by have := hb1.size; simp at this; omega)
  clear hb1
  go_wp2_with (fail)
  (with_reducible refine (HRD.out _).mono ?_)
  rintro e w2 ⟨rfl, h1, h2, h3, h4'⟩
  have HB2 := Lib.hid (HB1.out.trans (h4'.mono (by have := HZ1.out; omega)))
  have HR2 := Lib.hid ((h4'.block _ HZ1.out).trans HR1.out)
  have HL2 := Lib.hid h1; have HN2 := Lib.hid h2
  have HZ2 : Hid (w1.heap.size + 2 = w2.heap.size) := Lib.hid h3
  clear h1 h2 h3 h4' HB1 HR1
  go_wp2_with (go_at_call 36; (with_reducible refine (HUN.out _).mono ?_); rintro e wu ⟨rfl, rfl⟩)
  (with_reducible refine (HOP.out _).mono ?_)
  rintro e w4 ⟨rfl, hb4⟩
  have HI4 : Hid (w4.heap[w2.heap.size]? = some (.cells #[.int .i64 0, .int .i64 0, .int .i64 0, .int .i64 0, .int .i64 0, .int .i64 0, .bool aq, .bool rl] 23 (0, 0))) := Lib.hid ((hb4.block _ (by simp)).trans (heap_alloc_new _ _))
  have HL4 : Hid (BoxS w4 w1.heap.size r0) := Lib.hid ((hb4.block _ (by have := HZ2.out; simp; omega)).trans ((Lib.alloc_old _ _ _ (by have := HZ2.out; omega)).trans HL2.out))
  have HN4 : Hid (w4.heap[w1.heap.size + 1]? = some (.cells #[nextV w1.heap.size] 108 (0, 0))) := Lib.hid ((hb4.block _ (by have := HZ2.out; simp; omega)).trans ((Lib.alloc_old _ _ _ (by have := HZ2.out; omega)).trans HN2.out))
  have HR4 : Hid (w4.heap[w.heap.size]? = some (.cells #[.int .i64 0, .int .i64 0, .int .i64 0, .int .i64 0, .int .i64 0, .int .i64 0, .bool false, .bool false] 23 (0, 0))) := Lib.hid ((hb4.block _ (by have := HZ2.out; have := HZ1.out; simp; omega)).trans ((Lib.alloc_old _ _ _ (by have := HZ2.out; have := HZ1.out; omega)).trans HR2.out))
  have HB4 : Hid (Below w.heap.size w w4) := Lib.hid ((HB2.out.alloc HB2.out.size _).trans (hb4.mono (by have := HB2.out.size; simp; omega)))
  have HZ4 : Hid (w2.heap.size < w4.heap.size) := Lib.hid (by have := hb4.size; simp at this; omega)
  have hc0 : w4.cell? ⟨w2.heap.size, 0, none⟩ = some (.int .i64 0) := by rw [Lib.cell_of_heap HI4.out]; rfl
  have hf0 : w4.frozen? ⟨w2.heap.size, 0, none⟩ = false := Lib.frozen_of_heap HI4.out 0
  clear hb4 HL2 HN2 HR2 HB2
  go_wp2_with (fail)
  (with_reducible refine (HSY.out _ (HE.out.below (HB4.out.setCell (p := ⟨w2.heap.size, 0, none⟩) (by show w.heap.size ≤ w2.heap.size; have := HZ2.out; have := HZ1.out; omega) _))).mono ?_)
  rintro e w6 ⟨rfl, hb6⟩
  have hzz : w2.heap.size < (w4.setCell ⟨w2.heap.size, 0, none⟩ (.int .i64 k)).heap.size := by simpa [World.setCell] using HZ4.out
  have HI6 : Hid (w6.heap[w2.heap.size]? = some (.cells #[.int .i64 k, .int .i64 0, .int .i64 0, .int .i64 0, .int .i64 0, .int .i64 0, .bool aq, .bool rl] 23 (0, 0))) := Lib.hid ((hb6.block _ hzz).trans (setCell_row HI4.out 0 (.int .i64 k)))
  have HL6 : Hid (BoxS w6 w1.heap.size r0) := Lib.hid ((hb6.block _ (by have := HZ2.out; omega)).trans ((Below.heap_setCell _ _ _ _ (by show w1.heap.size ≠ w2.heap.size; have := HZ2.out; omega)).trans HL4.out))
  have HN6 : Hid (w6.heap[w1.heap.size + 1]? = some (.cells #[nextV w1.heap.size] 108 (0, 0))) := Lib.hid ((hb6.block _ (by have := HZ2.out; omega)).trans ((Below.heap_setCell _ _ _ _ (by show w1.heap.size + 1 ≠ w2.heap.size; have := HZ2.out; omega)).trans HN4.out))
  have HR6 : Hid (w6.heap[w.heap.size]? = some (.cells #[.int .i64 0, .int .i64 0, .int .i64 0, .int .i64 0, .int .i64 0, .int .i64 0, .bool false, .bool false] 23 (0, 0))) := Lib.hid ((hb6.block _ (by have := HZ2.out; have := HZ1.out; omega)).trans ((Below.heap_setCell _ _ _ _ (by show w.heap.size ≠ w2.heap.size; have := HZ2.out; have := HZ1.out; omega)).trans HR4.out))
  have HB6 : Hid (Below w.heap.size w w6) := Lib.hid ((HB4.out.setCell (p := ⟨w2.heap.size, 0, none⟩) (by show w.heap.size ≤ w2.heap.size; have := HZ2.out; have := HZ1.out; omega) _).trans (hb6.mono (by have := HZ2.out; have := HZ1.out; omega)))
  have HZ6 : Hid (w2.heap.size < w6.heap.size) := Lib.hid (by have := hb6.size; omega)
  clear hb6 hzz hc0 hf0 HI4 HL4 HN4 HR4 HB4 HZ4
  go_wp2_with (refine wpList_store_row rfl _ _ _ rfl w6.heap.size _ rfl rfl 51 _ (heap_alloc_new w6 _) size_said rfl (by simp [Value.oneCell']) ?_; refine Hid.out ?_)
  have HPS : Hid (PS w ((w6.alloc (.cells #[.bool false, .bool false, .bool false, .bool false, .bool false] 51)).setRow w6.heap.size #[.bool q1, .bool q2, .bool q3, .bool q4, .bool q5]) w2.heap.size w1.heap.size (w1.heap.size + 1) w6.heap.size w.heap.size ⟨k, 0, 0, 0, 0, 0, aq, rl⟩ r0 q1 q2 q3 q4 q5) := Lib.hid (by
    have z1 := HZ1.out; have z2 := HZ2.out; have z6 := HZ6.out
    have ko : ∀ b o, b < w6.heap.size → w6.heap[b]? = some o → ((w6.alloc (.cells #[.bool false, .bool false, .bool false, .bool false, .bool false] 51)).setRow w6.heap.size #[.bool q1, .bool q2, .bool q3, .bool q4, .bool q5]).heap[b]? = some o := fun b o hb h => by
      rw [setRow_other _ _ _ _ (by omega), Lib.alloc_old _ _ _ hb]; exact h
    exact ⟨ko _ _ (by omega) HI6.out, ko _ _ (by omega) HL6.out, ko _ _ (by omega) HN6.out, setRow_heap _ _ _ _ _ _ (heap_alloc_new w6 _), ko _ _ (by omega) HR6.out, HR0.out, below_setRow (HB6.out.alloc HB6.out.size _) HB6.out.size _, by omega⟩)
  generalize (w6.alloc (.cells #[.bool false, .bool false, .bool false, .bool false, .bool false] 51)).setRow w6.heap.size #[.bool q1, .bool q2, .bool q3, .bool q4, .bool q5] = w7 at *
  generalize w6.heap.size = bs at *
  generalize w2.heap.size = bi at *
  generalize w1.heap.size + 1 = bn at *
  generalize w1.heap.size = bl at *
  clear HI6 HL6 HN6 HR6 HB6 HZ6 HZ1 HZ2 HR0 HSY HCUT HUN HOP HRD
  refine Lib.hid ?_
  obtain ⟨f1, f2, f3, f4, f5⟩ := HPS.out.flag
  go_upto_if 39 with (fail)
  clear f1 f2 f3 f4 f5
  go_cut [] (fun wx => PS w wx bi bl bn bs w.heap.size ⟨k, (rdOp q1 regP r0).1, 0, 0, 0, 0, aq, rl⟩ (rdOp q1 regP r0).2 q1 q2 q3 q4 q5)
  case first =>
    cases q1
    · go_wp2_with fail
      go_meet
      exact HPS.out
    · go_wp2_with fail
      (with_reducible refine (HPS.out.reg HE.out).mono ?_)
      rintro e w20 ⟨rfl, h2⟩
      have HQ := Lib.hid h2
      obtain ⟨c1, c2, c3, c4, c5, cf⟩ := h2.cell
      have cf1 := cf 1
      clear h2 cf
      go_wp2_with fail
      go_meet
      exact HQ.out.put1 _
  case rest =>
  have HP1 := Lib.hid hcut
  clear hcut HPS
  generalize wc = w30 at *
  obtain ⟨f1, f2, f3, f4, f5⟩ := HP1.out.flag
  go_upto_if 44 with (fail)
  clear f1 f2 f3 f4 f5
  go_cut [] (fun wx => PS w wx bi bl bn bs w.heap.size ⟨k, (rdOp q1 regP r0).1, (rdOp q2 regP (rdOp q1 regP r0).2).1, 0, 0, 0, aq, rl⟩ (rdOp q2 regP (rdOp q1 regP r0).2).2 q1 q2 q3 q4 q5)
  case first =>
    cases q2
    · go_wp2_with fail
      go_meet
      exact HP1.out
    · go_wp2_with fail
      (with_reducible refine (HP1.out.reg HE.out).mono ?_)
      rintro e w21 ⟨rfl, h2⟩
      have HQ := Lib.hid h2
      obtain ⟨c1, c2, c3, c4, c5, cf⟩ := h2.cell
      have cf2 := cf 2
      clear h2 cf
      go_wp2_with fail
      go_meet
      exact HQ.out.put2 _
  case rest =>
  have HP2 := Lib.hid hcut
  clear hcut HP1
  generalize wc = w31 at *
  obtain ⟨f1, f2, f3, f4, f5⟩ := HP2.out.flag
  go_upto_if 49 with (fail)
  clear f1 f2 f3 f4 f5
  go_cut [] (fun wx => PS w wx bi bl bn bs w.heap.size ⟨k, (rdOp q1 regP r0).1, (rdOp q2 regP (rdOp q1 regP r0).2).1, (rdOp q3 regP (rdOp q2 regP (rdOp q1 regP r0).2).2).1, 0, 0, aq, rl⟩ (rdOp q3 regP (rdOp q2 regP (rdOp q1 regP r0).2).2).2 q1 q2 q3 q4 q5)
  case first =>
    cases q3
    · go_wp2_with fail
      go_meet
      exact HP2.out
    · go_wp2_with fail
      (with_reducible refine (HP2.out.reg HE.out).mono ?_)
      rintro e w22 ⟨rfl, h2⟩
      have HQ := Lib.hid h2
      obtain ⟨c1, c2, c3, c4, c5, cf⟩ := h2.cell
      have cf3 := cf 3
      clear h2 cf
      go_wp2_with fail
      go_meet
      exact HQ.out.put3 _
  case rest =>
  have HP3 := Lib.hid hcut
  clear hcut HP2
  generalize wc = w32 at *
  obtain ⟨f1, f2, f3, f4, f5⟩ := HP3.out.flag
  go_upto_if 54 with (fail)
  clear f1 f2 f3 f4 f5
  go_cut [] (fun wx => PS w wx bi bl bn bs w.heap.size ⟨k, (rdOp q1 regP r0).1, (rdOp q2 regP (rdOp q1 regP r0).2).1, (rdOp q3 regP (rdOp q2 regP (rdOp q1 regP r0).2).2).1, (rdOp q4 numP (rdOp q3 regP (rdOp q2 regP (rdOp q1 regP r0).2).2).2).1, 0, aq, rl⟩ (rdOp q4 numP (rdOp q3 regP (rdOp q2 regP (rdOp q1 regP r0).2).2).2).2 q1 q2 q3 q4 q5)
  case first =>
    cases q4
    · go_wp2_with fail
      go_meet
      exact HP3.out
    · go_wp2_with fail
      (with_reducible refine (HP3.out.num HE.out).mono ?_)
      rintro e w23 ⟨rfl, h2⟩
      have HQ := Lib.hid h2
      obtain ⟨c1, c2, c3, c4, c5, cf⟩ := h2.cell
      have cf4 := cf 4
      clear h2 cf
      go_wp2_with fail
      go_meet
      exact HQ.out.put4 _
  case rest =>
  have HP4 := Lib.hid hcut
  clear hcut HP3
  generalize wc = w33 at *
  obtain ⟨f1, f2, f3, f4, f5⟩ := HP4.out.flag
  go_upto_if 59 with (fail)
  clear f1 f2 f3 f4 f5
  go_cut [] (fun wx => PS w wx bi bl bn bs w.heap.size ⟨k, (rdOp q1 regP r0).1, (rdOp q2 regP (rdOp q1 regP r0).2).1, (rdOp q3 regP (rdOp q2 regP (rdOp q1 regP r0).2).2).1, (rdOp q4 numP (rdOp q3 regP (rdOp q2 regP (rdOp q1 regP r0).2).2).2).1, (rdOp q5 numP (rdOp q4 numP (rdOp q3 regP (rdOp q2 regP (rdOp q1 regP r0).2).2).2).2).1, aq, rl⟩ (rdOp q5 numP (rdOp q4 numP (rdOp q3 regP (rdOp q2 regP (rdOp q1 regP r0).2).2).2).2).2 q1 q2 q3 q4 q5)
  case first =>
    cases q5
    · go_wp2_with fail
      go_meet
      exact HP4.out
    · go_wp2_with fail
      (with_reducible refine (HP4.out.num HE.out).mono ?_)
      rintro e w24 ⟨rfl, h2⟩
      have HQ := Lib.hid h2
      obtain ⟨c1, c2, c3, c4, c5, cf⟩ := h2.cell
      have cf5 := cf 5
      clear h2 cf
      go_wp2_with fail
      go_meet
      exact HQ.out.put5 _
  case rest =>
  have HP5 := Lib.hid hcut
  clear hcut HP4
  generalize wc = w34 at *
  have hGE : (⟨k, (rdOp q1 regP r0).1, (rdOp q2 regP (rdOp q1 regP r0).2).1, (rdOp q3 regP (rdOp q2 regP (rdOp q1 regP r0).2).2).1, (rdOp q4 numP (rdOp q3 regP (rdOp q2 regP (rdOp q1 regP r0).2).2).2).1, (rdOp q5 numP (rdOp q4 numP (rdOp q3 regP (rdOp q2 regP (rdOp q1 regP r0).2).2).2).2).1, aq, rl⟩ : Ins) = G := HG.out
  rw [hGE] at HP5
  generalize (rdOp q5 numP (rdOp q4 numP (rdOp q3 regP (rdOp q2 regP (rdOp q1 regP r0).2).2).2).2).2 = rr at HP5
  have HEP : Hid (Env w34) := Lib.hid (HE.out.below HP5.out.bel)
  clear HG hGE
  go_wp2_with (refine wpList_load_row rfl _ _ rfl bi rfl 23 _ _ _ HP5.out.inst Tryz.underlying23 rfl size_ins ?_)
  cases hr : rightB G
  · have hC : c = false := by rw [HC.out, hr]; rfl
    have eRI : RI = insZ := by rw [HRI.out, hC]; rfl
    have eRE : RE = 100 := by rw [HRE.out, hC]; rfl
    subst eRI eRE
    have HPR := Lib.hid (print_no G hr w34 HEP.out)
    clear hC HC HRI HRE hr
    (with_reducible refine HPR.out.mono ?_)
    rintro e wp ⟨rfl, hbp⟩
    have HBP : Hid (Below w.heap.size w wp) := Lib.hid (HP5.out.bel.trans (hbp.mono HP5.out.bel.size))
    have HRS : Hid (wp.heap[w.heap.size]? = some (.cells #[.int .i64 0, .int .i64 0, .int .i64 0, .int .i64 0, .int .i64 0, .int .i64 0, .bool false, .bool false] 23 (0, 0))) := Lib.hid ((hbp.block _ (Array.getElem?_eq_some_iff.1 HP5.out.res).1).trans HP5.out.res)
    have HIS : Hid (wp.heap[bi]? = some (.cells #[.int .i64 G.op, .int .i64 G.rd, .int .i64 G.a, .int .i64 G.b, .int .i64 G.imm, .int .i64 G.csr, .bool G.aq, .bool G.rl] 23 (0, 0))) := Lib.hid ((hbp.block _ (Array.getElem?_eq_some_iff.1 HP5.out.inst).1).trans HP5.out.inst)
    clear hbp
    go_wp2_with (refine wpList_store_row rfl _ _ _ rfl w.heap.size _ rfl rfl 23 _ HRS.out size_ins rfl (by simp [Value.oneCell']) ?_)
    exact bodyPost_ret (v := .tuple #[.agg #[.int .i64 0, .int .i64 0, .int .i64 0, .int .i64 0, .int .i64 0, .int .i64 0, .bool false, .bool false], .int .i64 100]) (results_cell_tmp (show Tryz.f13.results = #[.cell 2 23, .tmp 3] by kernel_rfl) _ _ w.heap.size 23 _ _ _ rfl (setRow_heap _ _ _ _ _ _ HRS.out) Tryz.underlying23 rfl size_ins) rfl ⟨rfl, below_setRow HBP.out (Nat.le_refl _) _⟩
  · by_cases hp : printT G = l
    · have hC : c = true := by rw [HC.out, hr, hp]; simp
      have eRI : RI = G := by rw [HRI.out, hC]; rfl
      have eRE : RE = 0 := by rw [HRE.out, hC]; rfl
      subst eRI eRE
      have HPR := Lib.hid (print_yes RI hr w34 HEP.out)
      rw [hp] at HPR
      clear hC HC HRI HRE hr hp
      (with_reducible refine HPR.out.mono ?_)
      rintro e wp ⟨rfl, hbp⟩
      have HBP : Hid (Below w.heap.size w wp) := Lib.hid (HP5.out.bel.trans (hbp.mono HP5.out.bel.size))
      have HRS : Hid (wp.heap[w.heap.size]? = some (.cells #[.int .i64 0, .int .i64 0, .int .i64 0, .int .i64 0, .int .i64 0, .int .i64 0, .bool false, .bool false] 23 (0, 0))) := Lib.hid ((hbp.block _ (Array.getElem?_eq_some_iff.1 HP5.out.res).1).trans HP5.out.res)
      have HIS : Hid (wp.heap[bi]? = some (.cells #[.int .i64 RI.op, .int .i64 RI.rd, .int .i64 RI.a, .int .i64 RI.b, .int .i64 RI.imm, .int .i64 RI.csr, .bool RI.aq, .bool RI.rl] 23 (0, 0))) := Lib.hid ((hbp.block _ (Array.getElem?_eq_some_iff.1 HP5.out.inst).1).trans HP5.out.inst)
      clear hbp
      go_wp2_with (first
        | (refine wpList_load_row rfl _ _ rfl bi rfl 23 _ _ _ HIS.out Tryz.underlying23 rfl size_ins ?_)
        | (refine wpList_store_row rfl _ _ _ rfl w.heap.size _ rfl rfl 23 _ HRS.out size_ins rfl (by simp [Value.oneCell']) ?_))
      exact bodyPost_ret (v := .tuple #[.agg #[.int .i64 RI.op, .int .i64 RI.rd, .int .i64 RI.a, .int .i64 RI.b, .int .i64 RI.imm, .int .i64 RI.csr, .bool RI.aq, .bool RI.rl], .int .i64 0]) (results_cell_tmp (show Tryz.f13.results = #[.cell 2 23, .tmp 3] by kernel_rfl) _ _ w.heap.size 23 _ _ _ rfl (setRow_heap _ _ _ _ _ _ HRS.out) Tryz.underlying23 rfl size_ins) rfl ⟨rfl, below_setRow HBP.out (Nat.le_refl _) _⟩
    · have hC : c = false := by rw [HC.out, hr, Bool.true_and]; exact beq_eq_false_iff_ne.2 hp
      have eRI : RI = insZ := by rw [HRI.out, hC]; rfl
      have eRE : RE = 100 := by rw [HRE.out, hC]; rfl
      subst eRI eRE
      have HPR := Lib.hid (print_yes G hr w34 HEP.out)
      have hq : (printT G == l) = false := beq_eq_false_iff_ne.2 hp
      clear hC HC HRI HRE hr hp
      generalize printT G = tx at *
      (with_reducible refine HPR.out.mono ?_)
      rintro e wp ⟨rfl, hbp⟩
      have HBP : Hid (Below w.heap.size w wp) := Lib.hid (HP5.out.bel.trans (hbp.mono HP5.out.bel.size))
      have HRS : Hid (wp.heap[w.heap.size]? = some (.cells #[.int .i64 0, .int .i64 0, .int .i64 0, .int .i64 0, .int .i64 0, .int .i64 0, .bool false, .bool false] 23 (0, 0))) := Lib.hid ((hbp.block _ (Array.getElem?_eq_some_iff.1 HP5.out.res).1).trans HP5.out.res)
      have HIS : Hid (wp.heap[bi]? = some (.cells #[.int .i64 G.op, .int .i64 G.rd, .int .i64 G.a, .int .i64 G.b, .int .i64 G.imm, .int .i64 G.csr, .bool G.aq, .bool G.rl] 23 (0, 0))) := Lib.hid ((hbp.block _ (Array.getElem?_eq_some_iff.1 HP5.out.inst).1).trans HP5.out.inst)
      clear hbp
      go_wp2_with (refine wpList_store_row rfl _ _ _ rfl w.heap.size _ rfl rfl 23 _ HRS.out size_ins rfl (by simp [Value.oneCell']) ?_)
      exact bodyPost_ret (v := .tuple #[.agg #[.int .i64 0, .int .i64 0, .int .i64 0, .int .i64 0, .int .i64 0, .int .i64 0, .bool false, .bool false], .int .i64 100]) (results_cell_tmp (show Tryz.f13.results = #[.cell 2 23, .tmp 3] by kernel_rfl) _ _ w.heap.size 23 _ _ _ rfl (setRow_heap _ _ _ _ _ _ HRS.out) Tryz.underlying23 rfl size_ins) rfl ⟨rfl, below_setRow HBP.out (Nat.le_refl _) _⟩

end Go.Proofs.YtakdhdaoklcidaaGreatDoor

namespace Go.Proofs.YtakdhdaoklcidaaGreatDoor
open Go.Lib Go.RowKit
set_option linter.unusedVariables false
set_option maxRecDepth 100000

theorem fit_gen (k : Nat) (hk : 1 ≤ k ∧ k ≤ 9) (n : Int) (m : Nat) (hm : (formP k).length = m) (hno : ∀ j, j < m → decide ((formP k).getD j 0 < 0) = false) :
    ((formL k).number ((formL k).word n) = n) ↔ ((if k ≤ 5 then -(2 : Int) ^ (m - 1) else 0) ≤ n ∧ n ≤ (if k ≤ 5 then (2 : Int) ^ (m - 1) - 1 else 2 ^ m - 1)) := by
  have h := (formOk k hk).fits (form_len k hk) n
  rw [form_sg k hk] at h
  have hb : (List.range (formP k).length).any (badAt n (formP k)) = false := by
    rw [List.any_eq_false]
    intro j hj
    unfold badAt
    rw [hno j (by have := List.mem_range.1 hj; omega)]; simp
  have hd : fitsD n (decide (k ≤ 5)) (formP k) = decide ((if k ≤ 5 then -(2 : Int) ^ (m - 1) else 0) ≤ n ∧ n ≤ (if k ≤ 5 then (2 : Int) ^ (m - 1) - 1 else 2 ^ m - 1)) := by
    unfold fitsD
    rw [hb, hm]
    by_cases c : k ≤ 5 <;> simp [c]
  rw [hd] at h
  constructor
  · intro e
    rw [beq_iff_eq.2 e] at h
    exact of_decide_eq_true h.symm
  · intro e
    rw [decide_eq_true e] at h
    exact beq_iff_eq.1 h
theorem fit_I (n : Int) : ((formL 1).number ((formL 1).word n) = n) ↔ (-2048 ≤ n ∧ n ≤ 2047) := by
  have := fit_gen 1 (by decide) n 12 (by decide +kernel) (by decide +kernel)
  rw [this]
  simp
/-- The number of FormI with the lowest bits of n. -/
def lowZ (n : Int) : Int := (n + 2048) % 4096 - 2048
theorem lowZ_bd (n : Int) : -2048 ≤ lowZ n ∧ lowZ n ≤ 2047 := by unfold lowZ; omega
theorem lowZ_mod (n : Int) : (n - lowZ n) % 4096 = 0 := by unfold lowZ; omega
theorem lowZ_self (n : Int) : lowZ n = n ↔ -2048 ≤ n ∧ n ≤ 2047 := by unfold lowZ; omega
theorem low_wrap (n : Int) : wrap64 (n * 4503599627370496) / 4503599627370496 = lowZ n := by
  have e : (n * 4503599627370496 + 9223372036854775808) % 18446744073709551616 = 4503599627370496 * ((n + 2048) % 4096) := by
    rw [show n * 4503599627370496 + 9223372036854775808 = 4503599627370496 * (n + 2048) by omega, show (18446744073709551616 : Int) = 4503599627370496 * 4096 from rfl, Int.mul_emod_mul_of_pos _ _ (by omega)]
  unfold wrap64 lowZ
  rw [e]
  omega
/-- Noughts at the end of a word. -/
def ctzI (m : Int) : Nat := ctz 64 (m % 18446744073709551616).toNat
/-- A number of a word: the noughts at its end taken away it is odd. -/
theorem ctzI_spec (m : Int) (h0 : m ≠ 0) (h1 : -9223372036854775808 ≤ m) (h2 : m ≤ 9223372036854775807) : ctzI m < 64 ∧ ∃ q : Int, m = 2 ^ ctzI m * (2 * q + 1) := by
  have hx : 0 < (m % 18446744073709551616).toNat := by omega
  have hx2 : (m % 18446744073709551616).toNat < 2 ^ 64 := by
    have : (2 : Nat) ^ 64 = 18446744073709551616 := by decide
    omega
  obtain ⟨q, hq, hlt⟩ := ctzFrom_spec 64 _ hx hx2
  have e : ctzI m = ctzFrom 64 (m % 18446744073709551616).toNat := by unfold ctzI ctz; rw [if_neg (by omega)]
  rw [e]
  generalize ctzFrom 64 (m % 18446744073709551616).toNat = z at *
  refine ⟨hlt, ?_⟩
  have hc : m % 18446744073709551616 = 2 ^ z * (2 * (q : Int) + 1) := by
    have : ((m % 18446744073709551616).toNat : Int) = ((2 ^ z * (2 * q + 1) : Nat) : Int) := by rw [← hq]
    rw [Int.toNat_of_nonneg (by omega)] at this
    rw [this]; simp
  have hm : m = 18446744073709551616 * (m / 18446744073709551616) + m % 18446744073709551616 := (Int.mul_ediv_add_emod m _).symm
  have hp : (18446744073709551616 : Int) = 2 ^ z * (2 * 2 ^ (63 - z)) := by
    rw [← Int.mul_assoc, Int.mul_comm (2 ^ z) 2, Int.mul_assoc, ← Int.pow_add, show z + (63 - z) = 63 by omega]; decide
  refine ⟨2 ^ (63 - z) * (m / 18446744073709551616) + q, ?_⟩
  rw [hc] at hm
  calc m = 18446744073709551616 * (m / 18446744073709551616) + 2 ^ z * (2 * (q : Int) + 1) := hm
    _ = (2 ^ z * (2 * 2 ^ (63 - z))) * (m / 18446744073709551616) + 2 ^ z * (2 * (q : Int) + 1) := by rw [← hp]
    _ = 2 ^ z * (2 * (2 ^ (63 - z) * (m / 18446744073709551616) + q) + 1) := by
      rw [Int.mul_assoc, ← Int.mul_add]
      congr 1
      rw [Int.mul_add, ← Int.mul_assoc, Int.add_assoc]
/-- The noughts of a multiple of 4096 are twelve at least. -/
theorem ctzI_12 (m : Int) (h0 : m ≠ 0) (h1 : -9223372036854775808 ≤ m) (h2 : m ≤ 9223372036854775807) (hm : m % 4096 = 0) : 12 ≤ ctzI m := by
  obtain ⟨hlt, q, hq⟩ := ctzI_spec m h0 h1 h2
  generalize ctzI m = z at *
  rcases Nat.lt_or_ge z 12 with h | h
  · exfalso
    have hp : (4096 : Int) = 2 ^ z * (2 * 2 ^ (11 - z)) := by
      rw [← Int.mul_assoc, Int.mul_comm (2 ^ z) 2, Int.mul_assoc, ← Int.pow_add, show z + (11 - z) = 11 by omega]; decide
    rw [hp, hq, Int.mul_emod_mul_of_pos _ _ (two_pow_pos z)] at hm
    have hz : (2 : Int) ^ z ≠ 0 := by have := two_pow_pos z; omega
    have h3 := (Int.mul_eq_zero.1 hm).resolve_left hz
    have : (2 * q + 1) % (2 * 2 ^ (11 - z)) % 2 = (2 * q + 1) % 2 := Int.emod_emod_of_dvd _ ⟨_, rfl⟩
    rw [h3] at this
    omega
  · exact h
/-- What is left behind a step of li. -/
def nextL (n : Int) : Int := wrap64 (n - lowZ n) / 2 ^ ctzI (wrap64 (n - lowZ n))
def bF : Nat → Int
  | 0 => 524288
  | f + 1 => 4096 * bF f
theorem bF_pos (f : Nat) : 524288 ≤ bF f := by
  induction f with
  | zero => decide
  | succ f ih => show 524288 ≤ 4096 * bF f; omega
theorem bF_even (f : Nat) : bF f % 2 = 0 := by
  cases f with
  | zero => decide
  | succ f => show (4096 * bF f) % 2 = 0; omega
theorem high_ne {n : Int} (h : ¬ (-2048 ≤ n ∧ n ≤ 2047)) (h1 : -9223372036854775808 ≤ n) (h2 : n ≤ 9223372036854775807) : wrap64 (n - lowZ n) ≠ 0 ∧ wrap64 (n - lowZ n) % 4096 = 0 ∧ (wrap64 (n - lowZ n) = n - lowZ n ∨ n - lowZ n = 9223372036854775808) := by
  have a := lowZ_bd n
  have b := lowZ_mod n
  have c := lowZ_self n
  unfold wrap64
  omega
theorem wrap64_in (x : Int) : -9223372036854775808 ≤ wrap64 x ∧ wrap64 x ≤ 9223372036854775807 := by unfold wrap64; omega
theorem next_in {f : Nat} {n : Int} (hf : 1 ≤ f) (h : ¬ (-2048 ≤ n ∧ n ≤ 2047)) (h1 : -9223372036854775808 ≤ n) (h2 : n ≤ 9223372036854775807) (hb : -bF (f + 1) ≤ n ∧ n < bF (f + 1)) :
    -bF f ≤ nextL n ∧ nextL n < bF f ∧ (-9223372036854775808 ≤ nextL n ∧ nextL n ≤ 9223372036854775807) := by
  obtain ⟨e1, e2, e3⟩ := high_ne h h1 h2
  have a := lowZ_bd n
  have b := lowZ_mod n
  have wi := wrap64_in (n - lowZ n)
  have hm : -bF (f + 1) ≤ wrap64 (n - lowZ n) ∧ wrap64 (n - lowZ n) ≤ bF (f + 1) := by
    have e : bF (f + 1) = 4096 * bF f := rfl
    rw [e] at hb ⊢
    rcases e3 with e3 | e3
    · omega
    · have : wrap64 (n - lowZ n) = -9223372036854775808 := by rw [e3]; decide +kernel
      omega
  obtain ⟨z1, q, z2⟩ := ctzI_spec _ e1 wi.1 wi.2
  have z3 := ctzI_12 _ e1 wi.1 wi.2 e2
  unfold nextL
  generalize wrap64 (n - lowZ n) = m at *
  generalize ctzI m = z at *
  have hz := two_pow_pos z
  have hd : m / 2 ^ z = 2 * q + 1 := by rw [z2]; exact Int.mul_ediv_cancel_left _ (by omega)
  rw [hd]
  have hp : (2 : Int) ^ z = 4096 * 2 ^ (z - 12) := by rw [show (4096 : Int) = 2 ^ 12 from rfl, ← Int.pow_add, show 12 + (z - 12) = z by omega]
  have hz2 := two_pow_pos (z - 12)
  have e : bF (f + 1) = 4096 * bF f := rfl
  have ev := bF_even f
  have bp := bF_pos f
  have hmul : m = 4096 * (2 ^ (z - 12) * (2 * q + 1)) := by rw [z2, hp, Int.mul_assoc]
  have hr : -bF f ≤ 2 ^ (z - 12) * (2 * q + 1) ∧ 2 ^ (z - 12) * (2 * q + 1) ≤ bF f := by rw [e, hmul] at hm; omega
  have hq : (0 ≤ q → 2 * q + 1 ≤ 2 ^ (z - 12) * (2 * q + 1)) ∧ (q < 0 → 2 ^ (z - 12) * (2 * q + 1) ≤ 2 * q + 1) := by
    constructor
    · intro h; have := Int.mul_le_mul_of_nonneg_right (show (1 : Int) ≤ 2 ^ (z - 12) by omega) (show 0 ≤ 2 * q + 1 by omega); omega
    · intro h; have := Int.mul_le_mul_of_nonpos_right (show (1 : Int) ≤ 2 ^ (z - 12) by omega) (show 2 * q + 1 ≤ 0 by omega); omega
  omega
/-- The instructions of li. -/
def addI (rd a n : Int) : Ins := ⟨22, rd, a, 0, n, 0, false, false⟩
def addiwI (rd a n : Int) : Ins := ⟨31, rd, a, 0, n, 0, false, false⟩
def luiI (rd n : Int) : Ins := ⟨1, rd, 0, 0, n, 0, false, false⟩
def slliI (rd n : Int) : Ins := ⟨28, rd, rd, 0, n, 0, false, false⟩
def s32 (m : Int) : Int := RowKit.wrap32 m
def moreI (i : Ins) : List Ins := if i.imm = 0 then [] else [i]
def liF (rd : Int) : Nat → Int → List Ins
  | 0, _ => []
  | f + 1, n =>
    if -2048 ≤ n ∧ n ≤ 2047 then [addI rd 0 n]
    else if -2147483648 ≤ n ∧ n ≤ 2147483647 then luiI rd (s32 (n - lowZ n)) :: moreI (addiwI rd rd (lowZ n))
    else liF rd f (nextL n) ++ (slliI rd (ctzI (wrap64 (n - lowZ n))) :: moreI (addI rd rd (lowZ n)))
theorem liF_len (rd : Int) : ∀ f n, (liF rd f n).length ≤ 2 * f := by
  intro f
  induction f with
  | zero => intro n; simp [liF]
  | succ f ih =>
    intro n
    have hm : ∀ i, (moreI i).length ≤ 1 := fun i => by unfold moreI; split <;> simp
    unfold liF
    split
    · simp; omega
    · split
      · have := hm (addiwI rd rd (lowZ n)); simp; omega
      · have := ih (nextL n)
        have := hm (addI rd rd (lowZ n)); simp; omega
theorem bF4 : bF 4 = 147573952589676412928 := by decide
theorem bF1 : bF 1 = 2147483648 := by decide
end Go.Proofs.YtakdhdaoklcidaaGreatDoor

namespace Go.Proofs.YtakdhdaoklcidaaGreatDoor
open Go.Shelf
set_option linter.unusedVariables false
set_option maxRecDepth 100000

def tzLays_ren : Go.Shelf.Ren := ⟨fun | 29 => 41 | n => n, fun | 22 => 36 | 3 => 3 | 4 => 4 | 25 => 75 | 54 => 125 | 0 => 0 | 5 => 5 | n => n, fun | 1 => 1 | n => n⟩
theorem tzLays : Go.Proofs.Lays7.n29 Tryz.prog tzLays_ren where
  mixed := by kernel_rfl
  f29 := Tryz.func41.trans (congrArg some (by kernel_rfl))
  t0 := Tryz.underlying0
  a0 := Tryz.isAgg0
  z0 := Tryz.sizeOf0
  v0 := Tryz.zeroValue0
  i0 := by kernel_rfl
  t3 := Tryz.underlying3
  a3 := Tryz.isAgg3
  z3 := Tryz.sizeOf3
  v3 := Tryz.zeroValue3
  i3 := by kernel_rfl
  t4 := Tryz.underlying4
  a4 := Tryz.isAgg4
  z4 := Tryz.sizeOf4
  v4 := Tryz.zeroValue4
  i4 := by kernel_rfl
  t5 := Tryz.underlying5
  a5 := Tryz.isAgg5
  z5 := Tryz.sizeOf5
  v5 := Tryz.zeroValue5
  i5 := by kernel_rfl
  t22 := Tryz.underlying36
  a22 := Tryz.isAgg36
  z22 := Tryz.sizeOf36
  v22 := Tryz.zeroValue36
  i22 := by kernel_rfl
  t25 := Tryz.underlying75
  a25 := Tryz.isAgg75
  z25 := Tryz.sizeOf75
  v25 := Tryz.zeroValue75
  i25 := by kernel_rfl
  t54 := Tryz.underlying125
  a54 := Tryz.isAgg125
  z54 := Tryz.sizeOf125
  g1 := by kernel_rfl

end Go.Proofs.YtakdhdaoklcidaaGreatDoor

namespace Go.Proofs.YtakdhdaoklcidaaGreatDoor
open Go.RowKit
set_option linter.unusedVariables false
set_option maxRecDepth 100000

/-- The array of n cells whose cell i is f i. -/
def varr (n : Nat) (f : Nat → Value) : Array Value := ((List.range n).map f).toArray
/-- The array of n bools. -/
def barr (n : Nat) (f : Nat → Bool) : Array Value := varr n fun i => .bool (f i)

theorem varr_get (n : Nat) (f : Nat → Value) (j : Nat) (h : j < n) : (varr n f)[j]? = some (f j) := by unfold varr; simp [h]
theorem varr_congr {n : Nat} {f g : Nat → Value} (h : ∀ i, i < n → f i = g i) : varr n f = varr n g := by
  unfold varr; congr 1; exact List.map_congr_left fun i hi => h i (List.mem_range.1 hi)
theorem varr_set (n : Nat) (f : Nat → Value) (k : Nat) (v : Value) : (varr n f).setIfInBounds k v = varr n fun j => if j = k then v else f j := by
  apply Array.ext
  · simp [varr]
  · intro i h1 h2
    simp [varr]
    by_cases e : k = i
    · simp [e]
    · simp [e, show ¬ i = k from fun h => e h.symm]
theorem barr_congr {n : Nat} {f g : Nat → Bool} (h : ∀ i, i < n → f i = g i) : barr n f = barr n g := varr_congr fun i hi => by rw [h i hi]
theorem barr_set (n : Nat) (f : Nat → Bool) (k : Nat) (b : Bool) : (barr n f).setIfInBounds k (.bool b) = barr n fun j => if j = k then b else f j := by
  unfold barr; rw [varr_set]
  exact varr_congr fun i _ => by by_cases e : i = k <;> simp [e]

/-- Block g of the world holds that array, and may be written. -/
def HoldsB (w : World) (g : Nat) (t : TypeId) (n : Nat) (f : Nat → Bool) : Prop := w.heap[g]? = some (.cells (barr n f) t (0, 0))

theorem HoldsB.cell {w : World} {g : Nat} {t : TypeId} {n : Nat} {f : Nat → Bool} (h : HoldsB w g t n f) {j : Nat} (hj : j < n) : w.cell? ⟨g, j, none⟩ = some (.bool (f j)) := by
  rw [cell_of_row w g j _ t _ h]; exact varr_get n _ j hj
theorem HoldsB.frozen {w : World} {g : Nat} {t : TypeId} {n : Nat} {f : Nat → Bool} (h : HoldsB w g t n f) (j : Nat) : w.frozen? ⟨g, j, none⟩ = false := frozen_of_row w g j _ t h
theorem HoldsB.set {w : World} {g : Nat} {t : TypeId} {n : Nat} {f : Nat → Bool} (h : HoldsB w g t n f) (k : Nat) (b : Bool) : HoldsB (w.setCell ⟨g, k, none⟩ (.bool b)) g t n fun j => if j = k then b else f j := by
  unfold HoldsB; rw [heap_setCell_same w g k _ t _ h, barr_set]
theorem HoldsB.congr {w : World} {g : Nat} {t : TypeId} {n : Nat} {f k : Nat → Bool} (h : HoldsB w g t n f) (e : ∀ i, i < n → f i = k i) : HoldsB w g t n k := by
  unfold HoldsB at *; rw [h, barr_congr e]
theorem HoldsB.below {w w' : World} {B g : Nat} {t : TypeId} {n : Nat} {f : Nat → Bool} (h : HoldsB w g t n f) (hb : Below B w w') (hg : g < B) : HoldsB w' g t n f := by
  unfold HoldsB at *; rw [hb.block g hg]; exact h
theorem HoldsB.drewN {w : World} {g : Nat} {t : TypeId} {n : Nat} {f : Nat → Bool} (h : HoldsB w g t n f) (k : Nat) : HoldsB (w.drewN k) g t n f := h
theorem HoldsB.lt {w : World} {g : Nat} {t : TypeId} {n : Nat} {f : Nat → Bool} (h : HoldsB w g t n f) : g < w.heap.size := (Array.getElem?_eq_some_iff.1 h).1
theorem HoldsB.setRow {w : World} {g : Nat} {t : TypeId} {n : Nat} {f : Nat → Bool} (h : HoldsB w g t n f) (k : Nat → Bool) : HoldsB (w.setRow g (barr n k)) g t n k := setRow_heap w g _ _ t _ h
theorem HoldsB.alloc {w : World} {g : Nat} {t : TypeId} {n : Nat} {f : Nat → Bool} (h : HoldsB w g t n f) (o : Obj) : HoldsB (w.alloc o) g t n f := (Below.heap_alloc w o g h.lt).trans h
theorem HoldsB.setRow_other {w : World} {g g' : Nat} {t : TypeId} {n : Nat} {f : Nat → Bool} (h : HoldsB w g t n f) (hg : g ≠ g') (cs : Array Value) : HoldsB (w.setRow g' cs) g t n f := (Go.setRow_other w g' g cs hg).trans h
/-- A new block of noughts, written whole. -/
theorem HoldsB.laid (w : World) (t : TypeId) (n : Nat) (z f : Nat → Bool) : HoldsB ((w.alloc (.cells (barr n z) t)).setRow w.heap.size (barr n f)) w.heap.size t n f :=
  HoldsB.setRow (f := z) (heap_alloc_new w _) f
theorem below_setRow {B : Nat} {a w : World} (h : Below B a w) {g : Nat} (hg : B ≤ g) (cs : Array Value) : Below B a (w.setRow g cs) :=
  h.trans ⟨rfl, rfl, rfl, by simp, fun k hk => setRow_other w g k cs (by omega)⟩

end Go.Proofs.YtakdhdaoklcidaaGreatDoor

namespace Go.Proofs.YtakdhdaoklcidaaGreatDoor
open Go.RowKit
set_option linter.unusedVariables false
set_option maxRecDepth 100000

theorem own_slice' {w : World} {B : Nat} {e : TypeId} {s : Nat} {v : Value} {n : Nat} {xs : List Value} (h : w.ownsRow B e s v n xs) : ∃ A C, v = .slice A n C := by
  rcases h.2 with ⟨hv, h0⟩ | ⟨g, cap, cur, hv, _⟩
  · exact ⟨none, 0, by rw [hv, h0]⟩
  · exact ⟨_, cap, hv⟩
end Go.Proofs.YtakdhdaoklcidaaGreatDoor

namespace Go.Proofs.YtakdhdaoklcidaaGreatDoor
open Go.RowKit Go.Lib
set_option linter.unusedVariables false
set_option maxRecDepth 100000

theorem lowPart_any (n : Int) (h0 : -9223372036854775808 ≤ n) (h1 : n ≤ 9223372036854775807) (w : World) : Calls Tryz.prog 40 #[.int .i64 n] w fun e w' => e = .returned (.int .i64 (lowZ n)) ∧ w = w' := by
  have e := low_wrap n
  have HE := Lib.hid e
  clear e
  go_enter Tryz.func40, Tryz.ntmps40
  go_wp2
  go_ret
  exact ⟨congrArg (fun x => Ending.returned (.int .i64 x)) HE.out, rfl⟩

theorem tzP (m : Int) (w : World) (he : Env w) : Calls Tryz.prog 41 #[.int .u64 (IntKind.u64.wrap m)] w fun e w' => e = .returned (.int .i64 (ctzI m)) ∧ w = w' := by
  rw [show IntKind.u64.wrap m = m % 18446744073709551616 by simp [IntKind.wrap, IntKind.bits, IntKind.signed]]
  have hx : (((m % 18446744073709551616).toNat : Nat) : Int) = m % 18446744073709551616 := by omega
  have h := Any7.bits_TrailingZeros64 tzLays (m % 18446744073709551616).toNat (by omega) w (fun _ j hj => by
    obtain ⟨k, h1, h2⟩ := he.bru j (by simpa [Lib.deBruijn64tab] using hj)
    rw [show (Lib.deBruijn64tab.getD j 0) = k by rw [h2]; rfl]
    exact h1)
  rw [hx] at h
  refine h.mono ?_
  rintro e w' ⟨rfl, rfl⟩
  exact ⟨rfl, rfl⟩

def insC (i : Ins) : List Value := [.int .i64 i.op, .int .i64 i.rd, .int .i64 i.a, .int .i64 i.b, .int .i64 i.imm, .int .i64 i.csr, .bool i.aq, .bool i.rl]
def insCs (l : List Ins) : List Value := l.flatMap insC
theorem insCs_app (a b : List Ins) : insCs (a ++ b) = insCs a ++ insCs b := by unfold insCs; exact List.flatMap_append
/-- A row of instructions of a call's own. -/
abbrev OwnI (w : World) (B : Nat) (v : Value) (l : List Ins) : Prop := w.ownsRow B 23 8 v l.length (insCs l)
theorem info_insP : (Tryz.prog.info? 23).map (fun i => (i.zero, i.size, i.bytes)) = some (some (.agg #[.int .i64 0, .int .i64 0, .int .i64 0, .int .i64 0, .int .i64 0, .int .i64 0, .bool false, .bool false]), 8, 56) := by kernel_rfl
theorem run_pushIns (w : World) (B : Nat) (v : Value) (l : List Ins) (i : Ins) (h : OwnI w B v l) (hl : l.length ≤ 70000) (hB : B ≤ w.heap.size) (g : Nat) (c : Nat) (hc : w.heap[g]? = some (.cells (insC i).toArray 23 (0, 0))) (ty : TypeId) :
    ∃ v' w', (Builtin.append_ #[33, 33] ty #[v, .slice (some ⟨g, 0, none⟩) 1 c]).run Tryz.prog w = .ok v' w' ∧ OwnI w' B v' (l ++ [i]) ∧ Only (fun k => v.ownBlock = some k) w w' := by
  obtain ⟨i0, hi, hz0, hz1, hz2⟩ := info_parts info_insP
  have hn : ∀ j u, (insC i)[j]? = some u → w.cell? ((⟨g, 0, none⟩ : Addr).add j) = some u := by
    intro j u hj
    rw [Lib.add_plain, Nat.zero_add, Lib.cell_of_heap hc]
    simpa using hj
  have h1 : ∀ u ∈ insC i, u.oneCell' = true := by intro u hu; unfold insC at hu; simp at hu; rcases hu with rfl | rfl | rfl | rfl | rfl | rfl | rfl | rfl <;> rfl
  obtain ⟨v', w', hr, h2, h3, _, h5⟩ := run_append_own_at (P := Tryz.prog) w B 33 ty 23 i0 _ 8 56 Tryz.underlying33 hi hz0 hz1 hz2 rfl (by decide) v l.length _ h ⟨g, 0, none⟩ 1 c (insC i) rfl hn h1 (by unfold maxLen; omega) (by omega) hB
  refine ⟨v', w', hr, ?_, (Only.refl _ w).grown h3 (fun k hk => .inl hk)⟩
  unfold OwnI
  rw [insCs_app, List.length_append]
  simpa [insCs] using h2
/-- A row of one. -/
theorem ownI_one (w : World) (B g : Nat) (i : Ins) (hB : B ≤ g) (hc : w.heap[g]? = some (.cells (insC i).toArray 23 (0, 0))) : OwnI w B (.slice (some ⟨g, 0, none⟩) 1 1) [i] :=
  ⟨rfl, .inr ⟨g, 1, _, rfl, hB, hc, Nat.le_refl _, by decide, rfl, by simp [insCs, insC]⟩⟩
theorem ownI_keep {w w' : World} {B : Nat} {v : Value} {l : List Ins} (h : OwnI w B v l) {S : Nat → Prop} (o : Only S w w') (hS : ∀ g, v.ownBlock = some g → ¬ S g) : OwnI w' B v l := by
  refine ⟨h.1, ?_⟩
  rcases h.2 with hn | ⟨g, cap, cur, rfl, hb, hg, rest⟩
  · exact .inl hn
  · exact .inr ⟨g, cap, cur, rfl, hb, o.keeps (hS g rfl) hg, rest⟩
theorem ownI_slice {w : World} {B : Nat} {v : Value} {l : List Ins} (h : OwnI w B v l) : ∃ A C, v = .slice A l.length C := own_slice' h

def LiEnd (w : World) (l : List Ins) (e : Ending) (w' : World) : Prop := ∃ v, e = .returned v ∧ OwnI w' w.heap.size v l ∧ Below w.heap.size w w'

theorem li_small (rd n : Int) (hr : 0 ≤ rd ∧ rd ≤ 31) (h : -2048 ≤ n ∧ n ≤ 2047) (w : World) (he : Env w) : Calls Tryz.prog 16 #[.int .i64 rd, .int .i64 n] w (LiEnd w [addI rd 0 n]) := by
  have hF : Calls Tryz.prog 39 #[.int .i64 1, .int .i64 n] w fun e w' => e = .returned (.bool true) ∧ Below w.heap.size w w' := progFits_is 1 (by decide) n true (beq_iff_eq.2 ((fit_I n).2 h)) w
  have HF := Lib.hid hF
  obtain ⟨r0, r1⟩ := hr
  obtain ⟨n0, n1⟩ := h
  have hd1 : decide (rd < 0) = false := by simpa using r0
  have hd2 : decide (32 ≤ rd) = false := by simp; omega
  clear hF he
  go_enter Tryz.func16, Tryz.ntmps16
  go_wp2_with (fail)
  (with_reducible refine HF.out.mono ?_)
  rintro e w1 ⟨rfl, hb1⟩
  go_wp2
  go_ret
  exact ⟨_, rfl, ownI_one _ _ w1.heap.size (addI rd 0 n) hb1.size (heap_alloc_new _ _), hb1.alloc hb1.size _⟩

set_option maxHeartbeats 1000000 in
theorem li_mid (rd n : Int) (hr : 0 ≤ rd ∧ rd ≤ 31) (h : ¬ (-2048 ≤ n ∧ n ≤ 2047)) (h2 : -2147483648 ≤ n ∧ n ≤ 2147483647) (w : World) (he : Env w) : Calls Tryz.prog 16 #[.int .i64 rd, .int .i64 n] w (LiEnd w (luiI rd (s32 (n - lowZ n)) :: moreI (addiwI rd rd (lowZ n)))) := by
  have hF : Calls Tryz.prog 39 #[.int .i64 1, .int .i64 n] w fun e w' => e = .returned (.bool false) ∧ Below w.heap.size w w' := progFits_is 1 (by decide) n false (beq_eq_false_iff_ne.2 (fun e => h ((fit_I n).1 e))) w
  have HF := Lib.hid hF
  have HL := Lib.hid (fun w => lowPart_any n (by omega) (by omega) w)
  obtain ⟨lo0, lo1⟩ := lowZ_bd n
  obtain ⟨r0, r1⟩ := hr
  obtain ⟨n0, n1⟩ := h2
  have hd1 : decide (rd < 0) = false := by simpa using r0
  have hd2 : decide (32 ≤ rd) = false := by simp; omega
  clear hF he h
  generalize lowZ n = lo at *
  by_cases hlo : lo = 0
  · subst hlo
    rw [Int.sub_zero, show s32 n = n by unfold s32 RowKit.wrap32; omega]
    go_enter Tryz.func16, Tryz.ntmps16
    go_wp2_with (fail)
    (with_reducible refine HF.out.mono ?_)
    rintro e w1 ⟨rfl, hb1⟩
    go_wp2_with (fail)
    (with_reducible refine (HL.out _).mono ?_)
    rintro e wu ⟨rfl, rfl⟩
    go_wp2
    go_ret
    refine ⟨_, rfl, ownI_one _ _ w1.heap.size (luiI rd n) hb1.size (heap_alloc_new _ _), hb1.alloc hb1.size _⟩
  · have hq : (lo != 0) = true := by simpa using hlo
    have hws : RowKit.wrap64 (RowKit.wrap32 (n - lo)) = s32 (n - lo) := by unfold s32 RowKit.wrap64 RowKit.wrap32; omega
    go_enter Tryz.func16, Tryz.ntmps16
    go_wp2_with (fail)
    (with_reducible refine HF.out.mono ?_)
    rintro e w1 ⟨rfl, hb1⟩
    go_wp2_with (fail)
    (with_reducible refine (HL.out _).mono ?_)
    rintro e wu ⟨rfl, rfl⟩
    go_wp2_with (at_builtin; refine Hid.out ?_)
    have hI2 : ((w1.alloc (.cells (insC (luiI rd (s32 (n - lo)))).toArray 23)).alloc (.cells (insC (addiwI rd rd lo)).toArray 23)).heap[w1.heap.size + 1]? = some (.cells (insC (addiwI rd rd lo)).toArray 23 (0, 0)) := by
      have := heap_alloc_new (w1.alloc (.cells (insC (luiI rd (s32 (n - lo)))).toArray 23)) (.cells (insC (addiwI rd rd lo)).toArray 23)
      rw [World.size_alloc] at this; exact this
    have hI1 : ((w1.alloc (.cells (insC (luiI rd (s32 (n - lo)))).toArray 23)).alloc (.cells (insC (addiwI rd rd lo)).toArray 23)).heap[w1.heap.size]? = some (.cells (insC (luiI rd (s32 (n - lo)))).toArray 23 (0, 0)) := by
      rw [Lib.alloc_old _ _ _ (by simp)]; exact heap_alloc_new _ _
    have hBW : Below w.heap.size w ((w1.alloc (.cells (insC (luiI rd (s32 (n - lo)))).toArray 23)).alloc (.cells (insC (addiwI rd rd lo)).toArray 23)) := (hb1.alloc hb1.size _).alloc (by have := hb1.size; simp; omega) _
    obtain ⟨v', w', hr, ho, hon⟩ := run_pushIns _ w.heap.size _ _ (addiwI rd rd lo) (ownI_one _ w.heap.size w1.heap.size _ hb1.size hI1) (by simp) hBW.size (w1.heap.size + 1) 1 hI2 33
    obtain ⟨A, C, rfl⟩ := ownI_slice ho
    have HRUN := Lib.hid hr
    have HOW := Lib.hid ho
    have HBW := Lib.hid (Below.thenOnly hBW hon (by intro k hk; simp [Value.ownBlock] at hk; have := hb1.size; omega) hBW.size)
    clear hI2 hI1 hBW hr ho hon
    refine Lib.hid ?_
    refine wpList_append_run rfl _ _ _ rfl (.slice (some ⟨w1.heap.size, 0, none⟩) 1 1) (.slice (some ⟨w1.heap.size + 1, 0, none⟩) 1 1) _ w' rfl rfl HRUN.out ?_
    go_wp2
    go_ret
    exact ⟨_, rfl, by simpa [moreI, addiwI, hlo] using HOW.out, HBW.out⟩

end Go.Proofs.YtakdhdaoklcidaaGreatDoor
