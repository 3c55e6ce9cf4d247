/- Joined: DcC DcD DsD DsE DsF DsG Dv DtE LawDecodeNames AsG AsG2 AsH AsH2 TakeD -/
import Derived.Test.YtakdhdaoklcidaaGreatDoorKV2
import Derived.Laws.StructEq
import Derived.Deep.RegionHeld3
import Derived.Laws.EntriesVeiled
import Derived.Lib.OthersKept
import Derived.Deep.LoopGhost
import Derived.Lib.Hide
namespace Go.Proofs.YtakdhdaoklcidaaGreatDoor
open Go.RowKit
set_option linter.unusedVariables false
set_option maxRecDepth 100000
theorem reg7 (x : Int) (w : World) : Calls Tryz.prog 88 #[.int .u32 x, .int .i64 7] w fun e w' => e = .returned (.int .i64 (fldZ x 11 7)) ∧ w = w' := register_any x 7 (by omega) (by omega) w
theorem reg15 (x : Int) (w : World) : Calls Tryz.prog 88 #[.int .u32 x, .int .i64 15] w fun e w' => e = .returned (.int .i64 (fldZ x 19 15)) ∧ w = w' := register_any x 15 (by omega) (by omega) w
theorem reg20 (x : Int) (w : World) : Calls Tryz.prog 88 #[.int .u32 x, .int .i64 20] w fun e w' => e = .returned (.int .i64 (fldZ x 24 20)) ∧ w = w' := register_any x 20 (by omega) (by omega) w
theorem num8 (x : Int) (w : World) : Calls Tryz.prog 90 #[.int .i64 8, .int .u32 x] w fun e w' => e = .returned (.tuple #[.int .i64 (fldZ x 31 20), .bool true]) ∧ Below w.heap.size w w' := by
  rw [csr_number]; exact progNumber 8 (by omega) x w
theorem size_ins : (Tryz.prog.info? 23).map (·.size) = some 8 := by kernel_rfl
theorem rows3 {w w2 : World} {A B C : Array Value} {a b c : TypeId} (h : Below (((w.alloc (.cells A a)).alloc (.cells B b)).alloc (.cells C c)).heap.size (((w.alloc (.cells A a)).alloc (.cells B b)).alloc (.cells C c)) w2) :
    Hid (Below w.heap.size w w2) ∧ Hid (w2.heap[w.heap.size + 1]? = some (.cells B b (0, 0))) ∧ Hid (w2.heap[w.heap.size + 1 + 1]? = some (.cells C c (0, 0))) ∧ (∀ j, w2.cell? ⟨w.heap.size, j, none⟩ = A[j]?) ∧ w.heap.size + 1 + 1 < w2.heap.size := by
  have s1 : (w.alloc (.cells A a)).heap.size = w.heap.size + 1 := World.size_alloc _ _
  have s2 : ((w.alloc (.cells A a)).alloc (.cells B b)).heap.size = w.heap.size + 1 + 1 := by rw [World.size_alloc, s1]
  have s3 : (((w.alloc (.cells A a)).alloc (.cells B b)).alloc (.cells C c)).heap.size = w.heap.size + 1 + 1 + 1 := by rw [World.size_alloc, s2]
  have e0 : (((w.alloc (.cells A a)).alloc (.cells B b)).alloc (.cells C c)).heap[w.heap.size]? = some (.cells A a (0, 0)) := by
    rw [Below.heap_alloc _ _ _ (by omega), Below.heap_alloc _ _ _ (by omega)]; exact heap_alloc_new w _
  have e1 : (((w.alloc (.cells A a)).alloc (.cells B b)).alloc (.cells C c)).heap[w.heap.size + 1]? = some (.cells B b (0, 0)) := by
    rw [Below.heap_alloc _ _ _ (by omega), ← s1]; exact heap_alloc_new _ _
  have e2 : (((w.alloc (.cells A a)).alloc (.cells B b)).alloc (.cells C c)).heap[w.heap.size + 1 + 1]? = some (.cells C c (0, 0)) := by
    rw [← s2]; exact heap_alloc_new _ _
  refine ⟨Lib.hid (((((Below.refl _ _).alloc (Nat.le_refl _) _).alloc (by omega) _).alloc (by omega) _).trans (h.mono (by omega))), Lib.hid ((h.block _ (by omega)).trans e1), Lib.hid ((h.block _ (by omega)).trans e2), fun j => ?_, by have := h.size; omega⟩
  exact cell_of_row _ _ _ _ _ _ ((h.block _ (by omega)).trans e0)
set_option maxHeartbeats 1000000 in
theorem read_0 (op x : Int) (w : World) :
    Calls Tryz.prog 55 #[.agg #[.int .u32 127, .bool true, .bool false, .bool false, .int .i64 4, .bool false, .bool false], .int .i64 op, .int .u32 x] w fun e w' => e = .returned (.agg #[.int .i64 op, .int .i64 (fldZ x 11 7), .int .i64 (0), .int .i64 (0), .int .i64 ((formL 4).number x), .int .i64 (0), .bool (false), .bool (false)]) ∧ Below w.heap.size w w' := by
  have HI : Hid (∀ w, Calls Tryz.prog 90 #[.int .i64 4, .int .u32 x] w fun e w' => e = .returned (.tuple #[.int .i64 ((formL 4).number x), .bool true]) ∧ Below w.heap.size w w') := Lib.hid fun w => progNumber 4 (by omega) x w
  go_enter Tryz.func55, Tryz.ntmps55
  go_wp2_with (first
    | (go_at_call 88; (with_reducible refine (reg7 _ _).mono ?_); rintro e w3 ⟨rfl, rfl⟩)
    | (go_at_call 90; (with_reducible refine (HI.out _).mono ?_); rintro e ww2 ⟨rfl, hb2⟩; obtain ⟨HBww2, HZww2, HCww2, hpww2, hsww2⟩ := rows3 hb2; have qww20 : ww2.cell? ⟨w.heap.size + 1 + 1, 0, none⟩ = some (.int .i64 op) := (by rw [cell_of_row _ _ _ _ _ _ HCww2.out]; rfl); have qww21 : ww2.cell? ⟨w.heap.size + 1 + 1, 1, none⟩ = some (.int .i64 (fldZ x 11 7)) := (by rw [cell_of_row _ _ _ _ _ _ HCww2.out]; rfl); have qww22 : ww2.cell? ⟨w.heap.size + 1 + 1, 2, none⟩ = some (.int .i64 (0)) := (by rw [cell_of_row _ _ _ _ _ _ HCww2.out]; rfl); have qww23 : ww2.cell? ⟨w.heap.size + 1 + 1, 3, none⟩ = some (.int .i64 (0)) := (by rw [cell_of_row _ _ _ _ _ _ HCww2.out]; rfl); have qww24 : ww2.cell? ⟨w.heap.size + 1 + 1, 4, none⟩ = some (.int .i64 (0)) := (by rw [cell_of_row _ _ _ _ _ _ HCww2.out]; rfl); have qww25 : ww2.cell? ⟨w.heap.size + 1 + 1, 5, none⟩ = some (.int .i64 (0)) := (by rw [cell_of_row _ _ _ _ _ _ HCww2.out]; rfl); have qww26 : ww2.cell? ⟨w.heap.size + 1 + 1, 6, none⟩ = some (.bool (false)) := (by rw [cell_of_row _ _ _ _ _ _ HCww2.out]; rfl); have qww27 : ww2.cell? ⟨w.heap.size + 1 + 1, 7, none⟩ = some (.bool (false)) := (by rw [cell_of_row _ _ _ _ _ _ HCww2.out]; rfl); have qfww2 : ∀ j, ww2.frozen? ⟨w.heap.size + 1 + 1, j, none⟩ = false := fun j => frozen_of_row _ _ _ _ _ HCww2.out; have pww2 : ww2.cell? ⟨w.heap.size, 4, none⟩ = some (.int .i64 4) := (by rw [hpww2]; rfl); clear hb2 hpww2)
    | (refine wpList_store_row rfl _ _ _ rfl (w.heap.size + 1) _ rfl rfl 23 _ ((Below.heap_setCell ww2 ⟨w.heap.size + 1 + 1, 4, none⟩ (.int .i64 ((formL 4).number x)) (w.heap.size + 1) (by simp)).trans HZww2.out) size_ins rfl (by simp [Value.oneCell']) ?_))
  exact bodyPost_ret (v := .agg #[.int .i64 op, .int .i64 (fldZ x 11 7), .int .i64 (0), .int .i64 (0), .int .i64 ((formL 4).number x), .int .i64 (0), .bool (false), .bool (false)]) (results_cell_row (show Tryz.f55.results = #[.cell 6 23] by kernel_rfl) _ _ (w.heap.size + 1) 23 _ _ _ rfl (setRow_heap _ _ _ _ _ _ ((Below.heap_setCell ww2 ⟨w.heap.size + 1 + 1, 4, none⟩ (.int .i64 ((formL 4).number x)) (w.heap.size + 1) (by simp)).trans HZww2.out)) Tryz.underlying23 rfl size_ins) rfl ⟨rfl, below_setRow (HBww2.out.setCell (by show w.heap.size ≤ w.heap.size + 1 + 1; omega) _) (by omega) _⟩
set_option maxHeartbeats 1000000 in
theorem read_1 (op x : Int) (w : World) :
    Calls Tryz.prog 55 #[.agg #[.int .u32 127, .bool true, .bool false, .bool false, .int .i64 5, .bool false, .bool false], .int .i64 op, .int .u32 x] w fun e w' => e = .returned (.agg #[.int .i64 op, .int .i64 (fldZ x 11 7), .int .i64 (0), .int .i64 (0), .int .i64 ((formL 5).number x), .int .i64 (0), .bool (false), .bool (false)]) ∧ Below w.heap.size w w' := by
  have HI : Hid (∀ w, Calls Tryz.prog 90 #[.int .i64 5, .int .u32 x] w fun e w' => e = .returned (.tuple #[.int .i64 ((formL 5).number x), .bool true]) ∧ Below w.heap.size w w') := Lib.hid fun w => progNumber 5 (by omega) x w
  go_enter Tryz.func55, Tryz.ntmps55
  go_wp2_with (first
    | (go_at_call 88; (with_reducible refine (reg7 _ _).mono ?_); rintro e w3 ⟨rfl, rfl⟩)
    | (go_at_call 90; (with_reducible refine (HI.out _).mono ?_); rintro e ww2 ⟨rfl, hb2⟩; obtain ⟨HBww2, HZww2, HCww2, hpww2, hsww2⟩ := rows3 hb2; have qww20 : ww2.cell? ⟨w.heap.size + 1 + 1, 0, none⟩ = some (.int .i64 op) := (by rw [cell_of_row _ _ _ _ _ _ HCww2.out]; rfl); have qww21 : ww2.cell? ⟨w.heap.size + 1 + 1, 1, none⟩ = some (.int .i64 (fldZ x 11 7)) := (by rw [cell_of_row _ _ _ _ _ _ HCww2.out]; rfl); have qww22 : ww2.cell? ⟨w.heap.size + 1 + 1, 2, none⟩ = some (.int .i64 (0)) := (by rw [cell_of_row _ _ _ _ _ _ HCww2.out]; rfl); have qww23 : ww2.cell? ⟨w.heap.size + 1 + 1, 3, none⟩ = some (.int .i64 (0)) := (by rw [cell_of_row _ _ _ _ _ _ HCww2.out]; rfl); have qww24 : ww2.cell? ⟨w.heap.size + 1 + 1, 4, none⟩ = some (.int .i64 (0)) := (by rw [cell_of_row _ _ _ _ _ _ HCww2.out]; rfl); have qww25 : ww2.cell? ⟨w.heap.size + 1 + 1, 5, none⟩ = some (.int .i64 (0)) := (by rw [cell_of_row _ _ _ _ _ _ HCww2.out]; rfl); have qww26 : ww2.cell? ⟨w.heap.size + 1 + 1, 6, none⟩ = some (.bool (false)) := (by rw [cell_of_row _ _ _ _ _ _ HCww2.out]; rfl); have qww27 : ww2.cell? ⟨w.heap.size + 1 + 1, 7, none⟩ = some (.bool (false)) := (by rw [cell_of_row _ _ _ _ _ _ HCww2.out]; rfl); have qfww2 : ∀ j, ww2.frozen? ⟨w.heap.size + 1 + 1, j, none⟩ = false := fun j => frozen_of_row _ _ _ _ _ HCww2.out; have pww2 : ww2.cell? ⟨w.heap.size, 4, none⟩ = some (.int .i64 5) := (by rw [hpww2]; rfl); clear hb2 hpww2)
    | (refine wpList_store_row rfl _ _ _ rfl (w.heap.size + 1) _ rfl rfl 23 _ ((Below.heap_setCell ww2 ⟨w.heap.size + 1 + 1, 4, none⟩ (.int .i64 ((formL 5).number x)) (w.heap.size + 1) (by simp)).trans HZww2.out) size_ins rfl (by simp [Value.oneCell']) ?_))
  exact bodyPost_ret (v := .agg #[.int .i64 op, .int .i64 (fldZ x 11 7), .int .i64 (0), .int .i64 (0), .int .i64 ((formL 5).number x), .int .i64 (0), .bool (false), .bool (false)]) (results_cell_row (show Tryz.f55.results = #[.cell 6 23] by kernel_rfl) _ _ (w.heap.size + 1) 23 _ _ _ rfl (setRow_heap _ _ _ _ _ _ ((Below.heap_setCell ww2 ⟨w.heap.size + 1 + 1, 4, none⟩ (.int .i64 ((formL 5).number x)) (w.heap.size + 1) (by simp)).trans HZww2.out)) Tryz.underlying23 rfl size_ins) rfl ⟨rfl, below_setRow (HBww2.out.setCell (by show w.heap.size ≤ w.heap.size + 1 + 1; omega) _) (by omega) _⟩
set_option maxHeartbeats 1000000 in
theorem read_2 (op x : Int) (w : World) :
    Calls Tryz.prog 55 #[.agg #[.int .u32 28799, .bool true, .bool true, .bool false, .int .i64 1, .bool false, .bool false], .int .i64 op, .int .u32 x] w fun e w' => e = .returned (.agg #[.int .i64 op, .int .i64 (fldZ x 11 7), .int .i64 (fldZ x 19 15), .int .i64 (0), .int .i64 ((formL 1).number x), .int .i64 (0), .bool (false), .bool (false)]) ∧ Below w.heap.size w w' := by
  have HI : Hid (∀ w, Calls Tryz.prog 90 #[.int .i64 1, .int .u32 x] w fun e w' => e = .returned (.tuple #[.int .i64 ((formL 1).number x), .bool true]) ∧ Below w.heap.size w w') := Lib.hid fun w => progNumber 1 (by omega) x w
  go_enter Tryz.func55, Tryz.ntmps55
  go_wp2_with (first
    | (go_at_call 88; (with_reducible refine (reg7 _ _).mono ?_); rintro e w3 ⟨rfl, rfl⟩)
    | (go_at_call 88; (with_reducible refine (reg15 _ _).mono ?_); rintro e w3 ⟨rfl, rfl⟩)
    | (go_at_call 90; (with_reducible refine (HI.out _).mono ?_); rintro e ww2 ⟨rfl, hb2⟩; obtain ⟨HBww2, HZww2, HCww2, hpww2, hsww2⟩ := rows3 hb2; have qww20 : ww2.cell? ⟨w.heap.size + 1 + 1, 0, none⟩ = some (.int .i64 op) := (by rw [cell_of_row _ _ _ _ _ _ HCww2.out]; rfl); have qww21 : ww2.cell? ⟨w.heap.size + 1 + 1, 1, none⟩ = some (.int .i64 (fldZ x 11 7)) := (by rw [cell_of_row _ _ _ _ _ _ HCww2.out]; rfl); have qww22 : ww2.cell? ⟨w.heap.size + 1 + 1, 2, none⟩ = some (.int .i64 (fldZ x 19 15)) := (by rw [cell_of_row _ _ _ _ _ _ HCww2.out]; rfl); have qww23 : ww2.cell? ⟨w.heap.size + 1 + 1, 3, none⟩ = some (.int .i64 (0)) := (by rw [cell_of_row _ _ _ _ _ _ HCww2.out]; rfl); have qww24 : ww2.cell? ⟨w.heap.size + 1 + 1, 4, none⟩ = some (.int .i64 (0)) := (by rw [cell_of_row _ _ _ _ _ _ HCww2.out]; rfl); have qww25 : ww2.cell? ⟨w.heap.size + 1 + 1, 5, none⟩ = some (.int .i64 (0)) := (by rw [cell_of_row _ _ _ _ _ _ HCww2.out]; rfl); have qww26 : ww2.cell? ⟨w.heap.size + 1 + 1, 6, none⟩ = some (.bool (false)) := (by rw [cell_of_row _ _ _ _ _ _ HCww2.out]; rfl); have qww27 : ww2.cell? ⟨w.heap.size + 1 + 1, 7, none⟩ = some (.bool (false)) := (by rw [cell_of_row _ _ _ _ _ _ HCww2.out]; rfl); have qfww2 : ∀ j, ww2.frozen? ⟨w.heap.size + 1 + 1, j, none⟩ = false := fun j => frozen_of_row _ _ _ _ _ HCww2.out; have pww2 : ww2.cell? ⟨w.heap.size, 4, none⟩ = some (.int .i64 1) := (by rw [hpww2]; rfl); clear hb2 hpww2)
    | (refine wpList_store_row rfl _ _ _ rfl (w.heap.size + 1) _ rfl rfl 23 _ ((Below.heap_setCell ww2 ⟨w.heap.size + 1 + 1, 4, none⟩ (.int .i64 ((formL 1).number x)) (w.heap.size + 1) (by simp)).trans HZww2.out) size_ins rfl (by simp [Value.oneCell']) ?_))
  exact bodyPost_ret (v := .agg #[.int .i64 op, .int .i64 (fldZ x 11 7), .int .i64 (fldZ x 19 15), .int .i64 (0), .int .i64 ((formL 1).number x), .int .i64 (0), .bool (false), .bool (false)]) (results_cell_row (show Tryz.f55.results = #[.cell 6 23] by kernel_rfl) _ _ (w.heap.size + 1) 23 _ _ _ rfl (setRow_heap _ _ _ _ _ _ ((Below.heap_setCell ww2 ⟨w.heap.size + 1 + 1, 4, none⟩ (.int .i64 ((formL 1).number x)) (w.heap.size + 1) (by simp)).trans HZww2.out)) Tryz.underlying23 rfl size_ins) rfl ⟨rfl, below_setRow (HBww2.out.setCell (by show w.heap.size ≤ w.heap.size + 1 + 1; omega) _) (by omega) _⟩
set_option maxHeartbeats 1000000 in
theorem read_3 (op x : Int) (w : World) :
    Calls Tryz.prog 55 #[.agg #[.int .u32 28799, .bool false, .bool true, .bool true, .int .i64 3, .bool false, .bool false], .int .i64 op, .int .u32 x] w fun e w' => e = .returned (.agg #[.int .i64 op, .int .i64 (0), .int .i64 (fldZ x 19 15), .int .i64 (fldZ x 24 20), .int .i64 ((formL 3).number x), .int .i64 (0), .bool (false), .bool (false)]) ∧ Below w.heap.size w w' := by
  have HI : Hid (∀ w, Calls Tryz.prog 90 #[.int .i64 3, .int .u32 x] w fun e w' => e = .returned (.tuple #[.int .i64 ((formL 3).number x), .bool true]) ∧ Below w.heap.size w w') := Lib.hid fun w => progNumber 3 (by omega) x w
  go_enter Tryz.func55, Tryz.ntmps55
  go_wp2_with (first
    | (go_at_call 88; (with_reducible refine (reg15 _ _).mono ?_); rintro e w3 ⟨rfl, rfl⟩)
    | (go_at_call 88; (with_reducible refine (reg20 _ _).mono ?_); rintro e w3 ⟨rfl, rfl⟩)
    | (go_at_call 90; (with_reducible refine (HI.out _).mono ?_); rintro e ww2 ⟨rfl, hb2⟩; obtain ⟨HBww2, HZww2, HCww2, hpww2, hsww2⟩ := rows3 hb2; have qww20 : ww2.cell? ⟨w.heap.size + 1 + 1, 0, none⟩ = some (.int .i64 op) := (by rw [cell_of_row _ _ _ _ _ _ HCww2.out]; rfl); have qww21 : ww2.cell? ⟨w.heap.size + 1 + 1, 1, none⟩ = some (.int .i64 (0)) := (by rw [cell_of_row _ _ _ _ _ _ HCww2.out]; rfl); have qww22 : ww2.cell? ⟨w.heap.size + 1 + 1, 2, none⟩ = some (.int .i64 (fldZ x 19 15)) := (by rw [cell_of_row _ _ _ _ _ _ HCww2.out]; rfl); have qww23 : ww2.cell? ⟨w.heap.size + 1 + 1, 3, none⟩ = some (.int .i64 (fldZ x 24 20)) := (by rw [cell_of_row _ _ _ _ _ _ HCww2.out]; rfl); have qww24 : ww2.cell? ⟨w.heap.size + 1 + 1, 4, none⟩ = some (.int .i64 (0)) := (by rw [cell_of_row _ _ _ _ _ _ HCww2.out]; rfl); have qww25 : ww2.cell? ⟨w.heap.size + 1 + 1, 5, none⟩ = some (.int .i64 (0)) := (by rw [cell_of_row _ _ _ _ _ _ HCww2.out]; rfl); have qww26 : ww2.cell? ⟨w.heap.size + 1 + 1, 6, none⟩ = some (.bool (false)) := (by rw [cell_of_row _ _ _ _ _ _ HCww2.out]; rfl); have qww27 : ww2.cell? ⟨w.heap.size + 1 + 1, 7, none⟩ = some (.bool (false)) := (by rw [cell_of_row _ _ _ _ _ _ HCww2.out]; rfl); have qfww2 : ∀ j, ww2.frozen? ⟨w.heap.size + 1 + 1, j, none⟩ = false := fun j => frozen_of_row _ _ _ _ _ HCww2.out; have pww2 : ww2.cell? ⟨w.heap.size, 4, none⟩ = some (.int .i64 3) := (by rw [hpww2]; rfl); clear hb2 hpww2)
    | (refine wpList_store_row rfl _ _ _ rfl (w.heap.size + 1) _ rfl rfl 23 _ ((Below.heap_setCell ww2 ⟨w.heap.size + 1 + 1, 4, none⟩ (.int .i64 ((formL 3).number x)) (w.heap.size + 1) (by simp)).trans HZww2.out) size_ins rfl (by simp [Value.oneCell']) ?_))
  exact bodyPost_ret (v := .agg #[.int .i64 op, .int .i64 (0), .int .i64 (fldZ x 19 15), .int .i64 (fldZ x 24 20), .int .i64 ((formL 3).number x), .int .i64 (0), .bool (false), .bool (false)]) (results_cell_row (show Tryz.f55.results = #[.cell 6 23] by kernel_rfl) _ _ (w.heap.size + 1) 23 _ _ _ rfl (setRow_heap _ _ _ _ _ _ ((Below.heap_setCell ww2 ⟨w.heap.size + 1 + 1, 4, none⟩ (.int .i64 ((formL 3).number x)) (w.heap.size + 1) (by simp)).trans HZww2.out)) Tryz.underlying23 rfl size_ins) rfl ⟨rfl, below_setRow (HBww2.out.setCell (by show w.heap.size ≤ w.heap.size + 1 + 1; omega) _) (by omega) _⟩
set_option maxHeartbeats 1000000 in
theorem read_4 (op x : Int) (w : World) :
    Calls Tryz.prog 55 #[.agg #[.int .u32 28799, .bool false, .bool true, .bool true, .int .i64 2, .bool false, .bool false], .int .i64 op, .int .u32 x] w fun e w' => e = .returned (.agg #[.int .i64 op, .int .i64 (0), .int .i64 (fldZ x 19 15), .int .i64 (fldZ x 24 20), .int .i64 ((formL 2).number x), .int .i64 (0), .bool (false), .bool (false)]) ∧ Below w.heap.size w w' := by
  have HI : Hid (∀ w, Calls Tryz.prog 90 #[.int .i64 2, .int .u32 x] w fun e w' => e = .returned (.tuple #[.int .i64 ((formL 2).number x), .bool true]) ∧ Below w.heap.size w w') := Lib.hid fun w => progNumber 2 (by omega) x w
  go_enter Tryz.func55, Tryz.ntmps55
  go_wp2_with (first
    | (go_at_call 88; (with_reducible refine (reg15 _ _).mono ?_); rintro e w3 ⟨rfl, rfl⟩)
    | (go_at_call 88; (with_reducible refine (reg20 _ _).mono ?_); rintro e w3 ⟨rfl, rfl⟩)
    | (go_at_call 90; (with_reducible refine (HI.out _).mono ?_); rintro e ww2 ⟨rfl, hb2⟩; obtain ⟨HBww2, HZww2, HCww2, hpww2, hsww2⟩ := rows3 hb2; have qww20 : ww2.cell? ⟨w.heap.size + 1 + 1, 0, none⟩ = some (.int .i64 op) := (by rw [cell_of_row _ _ _ _ _ _ HCww2.out]; rfl); have qww21 : ww2.cell? ⟨w.heap.size + 1 + 1, 1, none⟩ = some (.int .i64 (0)) := (by rw [cell_of_row _ _ _ _ _ _ HCww2.out]; rfl); have qww22 : ww2.cell? ⟨w.heap.size + 1 + 1, 2, none⟩ = some (.int .i64 (fldZ x 19 15)) := (by rw [cell_of_row _ _ _ _ _ _ HCww2.out]; rfl); have qww23 : ww2.cell? ⟨w.heap.size + 1 + 1, 3, none⟩ = some (.int .i64 (fldZ x 24 20)) := (by rw [cell_of_row _ _ _ _ _ _ HCww2.out]; rfl); have qww24 : ww2.cell? ⟨w.heap.size + 1 + 1, 4, none⟩ = some (.int .i64 (0)) := (by rw [cell_of_row _ _ _ _ _ _ HCww2.out]; rfl); have qww25 : ww2.cell? ⟨w.heap.size + 1 + 1, 5, none⟩ = some (.int .i64 (0)) := (by rw [cell_of_row _ _ _ _ _ _ HCww2.out]; rfl); have qww26 : ww2.cell? ⟨w.heap.size + 1 + 1, 6, none⟩ = some (.bool (false)) := (by rw [cell_of_row _ _ _ _ _ _ HCww2.out]; rfl); have qww27 : ww2.cell? ⟨w.heap.size + 1 + 1, 7, none⟩ = some (.bool (false)) := (by rw [cell_of_row _ _ _ _ _ _ HCww2.out]; rfl); have qfww2 : ∀ j, ww2.frozen? ⟨w.heap.size + 1 + 1, j, none⟩ = false := fun j => frozen_of_row _ _ _ _ _ HCww2.out; have pww2 : ww2.cell? ⟨w.heap.size, 4, none⟩ = some (.int .i64 2) := (by rw [hpww2]; rfl); clear hb2 hpww2)
    | (refine wpList_store_row rfl _ _ _ rfl (w.heap.size + 1) _ rfl rfl 23 _ ((Below.heap_setCell ww2 ⟨w.heap.size + 1 + 1, 4, none⟩ (.int .i64 ((formL 2).number x)) (w.heap.size + 1) (by simp)).trans HZww2.out) size_ins rfl (by simp [Value.oneCell']) ?_))
  exact bodyPost_ret (v := .agg #[.int .i64 op, .int .i64 (0), .int .i64 (fldZ x 19 15), .int .i64 (fldZ x 24 20), .int .i64 ((formL 2).number x), .int .i64 (0), .bool (false), .bool (false)]) (results_cell_row (show Tryz.f55.results = #[.cell 6 23] by kernel_rfl) _ _ (w.heap.size + 1) 23 _ _ _ rfl (setRow_heap _ _ _ _ _ _ ((Below.heap_setCell ww2 ⟨w.heap.size + 1 + 1, 4, none⟩ (.int .i64 ((formL 2).number x)) (w.heap.size + 1) (by simp)).trans HZww2.out)) Tryz.underlying23 rfl size_ins) rfl ⟨rfl, below_setRow (HBww2.out.setCell (by show w.heap.size ≤ w.heap.size + 1 + 1; omega) _) (by omega) _⟩
set_option maxHeartbeats 1000000 in
theorem read_5 (op x : Int) (w : World) :
    Calls Tryz.prog 55 #[.agg #[.int .u32 4227887231, .bool true, .bool true, .bool false, .int .i64 6, .bool false, .bool false], .int .i64 op, .int .u32 x] w fun e w' => e = .returned (.agg #[.int .i64 op, .int .i64 (fldZ x 11 7), .int .i64 (fldZ x 19 15), .int .i64 (0), .int .i64 ((formL 6).number x), .int .i64 (0), .bool (false), .bool (false)]) ∧ Below w.heap.size w w' := by
  have HI : Hid (∀ w, Calls Tryz.prog 90 #[.int .i64 6, .int .u32 x] w fun e w' => e = .returned (.tuple #[.int .i64 ((formL 6).number x), .bool true]) ∧ Below w.heap.size w w') := Lib.hid fun w => progNumber 6 (by omega) x w
  go_enter Tryz.func55, Tryz.ntmps55
  go_wp2_with (first
    | (go_at_call 88; (with_reducible refine (reg7 _ _).mono ?_); rintro e w3 ⟨rfl, rfl⟩)
    | (go_at_call 88; (with_reducible refine (reg15 _ _).mono ?_); rintro e w3 ⟨rfl, rfl⟩)
    | (go_at_call 90; (with_reducible refine (HI.out _).mono ?_); rintro e ww2 ⟨rfl, hb2⟩; obtain ⟨HBww2, HZww2, HCww2, hpww2, hsww2⟩ := rows3 hb2; have qww20 : ww2.cell? ⟨w.heap.size + 1 + 1, 0, none⟩ = some (.int .i64 op) := (by rw [cell_of_row _ _ _ _ _ _ HCww2.out]; rfl); have qww21 : ww2.cell? ⟨w.heap.size + 1 + 1, 1, none⟩ = some (.int .i64 (fldZ x 11 7)) := (by rw [cell_of_row _ _ _ _ _ _ HCww2.out]; rfl); have qww22 : ww2.cell? ⟨w.heap.size + 1 + 1, 2, none⟩ = some (.int .i64 (fldZ x 19 15)) := (by rw [cell_of_row _ _ _ _ _ _ HCww2.out]; rfl); have qww23 : ww2.cell? ⟨w.heap.size + 1 + 1, 3, none⟩ = some (.int .i64 (0)) := (by rw [cell_of_row _ _ _ _ _ _ HCww2.out]; rfl); have qww24 : ww2.cell? ⟨w.heap.size + 1 + 1, 4, none⟩ = some (.int .i64 (0)) := (by rw [cell_of_row _ _ _ _ _ _ HCww2.out]; rfl); have qww25 : ww2.cell? ⟨w.heap.size + 1 + 1, 5, none⟩ = some (.int .i64 (0)) := (by rw [cell_of_row _ _ _ _ _ _ HCww2.out]; rfl); have qww26 : ww2.cell? ⟨w.heap.size + 1 + 1, 6, none⟩ = some (.bool (false)) := (by rw [cell_of_row _ _ _ _ _ _ HCww2.out]; rfl); have qww27 : ww2.cell? ⟨w.heap.size + 1 + 1, 7, none⟩ = some (.bool (false)) := (by rw [cell_of_row _ _ _ _ _ _ HCww2.out]; rfl); have qfww2 : ∀ j, ww2.frozen? ⟨w.heap.size + 1 + 1, j, none⟩ = false := fun j => frozen_of_row _ _ _ _ _ HCww2.out; have pww2 : ww2.cell? ⟨w.heap.size, 4, none⟩ = some (.int .i64 6) := (by rw [hpww2]; rfl); clear hb2 hpww2)
    | (refine wpList_store_row rfl _ _ _ rfl (w.heap.size + 1) _ rfl rfl 23 _ ((Below.heap_setCell ww2 ⟨w.heap.size + 1 + 1, 4, none⟩ (.int .i64 ((formL 6).number x)) (w.heap.size + 1) (by simp)).trans HZww2.out) size_ins rfl (by simp [Value.oneCell']) ?_))
  exact bodyPost_ret (v := .agg #[.int .i64 op, .int .i64 (fldZ x 11 7), .int .i64 (fldZ x 19 15), .int .i64 (0), .int .i64 ((formL 6).number x), .int .i64 (0), .bool (false), .bool (false)]) (results_cell_row (show Tryz.f55.results = #[.cell 6 23] by kernel_rfl) _ _ (w.heap.size + 1) 23 _ _ _ rfl (setRow_heap _ _ _ _ _ _ ((Below.heap_setCell ww2 ⟨w.heap.size + 1 + 1, 4, none⟩ (.int .i64 ((formL 6).number x)) (w.heap.size + 1) (by simp)).trans HZww2.out)) Tryz.underlying23 rfl size_ins) rfl ⟨rfl, below_setRow (HBww2.out.setCell (by show w.heap.size ≤ w.heap.size + 1 + 1; omega) _) (by omega) _⟩
set_option maxHeartbeats 1000000 in
theorem read_6 (op x : Int) (w : World) :
    Calls Tryz.prog 55 #[.agg #[.int .u32 4261441663, .bool true, .bool true, .bool false, .int .i64 7, .bool false, .bool false], .int .i64 op, .int .u32 x] w fun e w' => e = .returned (.agg #[.int .i64 op, .int .i64 (fldZ x 11 7), .int .i64 (fldZ x 19 15), .int .i64 (0), .int .i64 ((formL 7).number x), .int .i64 (0), .bool (false), .bool (false)]) ∧ Below w.heap.size w w' := by
  have HI : Hid (∀ w, Calls Tryz.prog 90 #[.int .i64 7, .int .u32 x] w fun e w' => e = .returned (.tuple #[.int .i64 ((formL 7).number x), .bool true]) ∧ Below w.heap.size w w') := Lib.hid fun w => progNumber 7 (by omega) x w
  go_enter Tryz.func55, Tryz.ntmps55
  go_wp2_with (first
    | (go_at_call 88; (with_reducible refine (reg7 _ _).mono ?_); rintro e w3 ⟨rfl, rfl⟩)
    | (go_at_call 88; (with_reducible refine (reg15 _ _).mono ?_); rintro e w3 ⟨rfl, rfl⟩)
    | (go_at_call 90; (with_reducible refine (HI.out _).mono ?_); rintro e ww2 ⟨rfl, hb2⟩; obtain ⟨HBww2, HZww2, HCww2, hpww2, hsww2⟩ := rows3 hb2; have qww20 : ww2.cell? ⟨w.heap.size + 1 + 1, 0, none⟩ = some (.int .i64 op) := (by rw [cell_of_row _ _ _ _ _ _ HCww2.out]; rfl); have qww21 : ww2.cell? ⟨w.heap.size + 1 + 1, 1, none⟩ = some (.int .i64 (fldZ x 11 7)) := (by rw [cell_of_row _ _ _ _ _ _ HCww2.out]; rfl); have qww22 : ww2.cell? ⟨w.heap.size + 1 + 1, 2, none⟩ = some (.int .i64 (fldZ x 19 15)) := (by rw [cell_of_row _ _ _ _ _ _ HCww2.out]; rfl); have qww23 : ww2.cell? ⟨w.heap.size + 1 + 1, 3, none⟩ = some (.int .i64 (0)) := (by rw [cell_of_row _ _ _ _ _ _ HCww2.out]; rfl); have qww24 : ww2.cell? ⟨w.heap.size + 1 + 1, 4, none⟩ = some (.int .i64 (0)) := (by rw [cell_of_row _ _ _ _ _ _ HCww2.out]; rfl); have qww25 : ww2.cell? ⟨w.heap.size + 1 + 1, 5, none⟩ = some (.int .i64 (0)) := (by rw [cell_of_row _ _ _ _ _ _ HCww2.out]; rfl); have qww26 : ww2.cell? ⟨w.heap.size + 1 + 1, 6, none⟩ = some (.bool (false)) := (by rw [cell_of_row _ _ _ _ _ _ HCww2.out]; rfl); have qww27 : ww2.cell? ⟨w.heap.size + 1 + 1, 7, none⟩ = some (.bool (false)) := (by rw [cell_of_row _ _ _ _ _ _ HCww2.out]; rfl); have qfww2 : ∀ j, ww2.frozen? ⟨w.heap.size + 1 + 1, j, none⟩ = false := fun j => frozen_of_row _ _ _ _ _ HCww2.out; have pww2 : ww2.cell? ⟨w.heap.size, 4, none⟩ = some (.int .i64 7) := (by rw [hpww2]; rfl); clear hb2 hpww2)
    | (refine wpList_store_row rfl _ _ _ rfl (w.heap.size + 1) _ rfl rfl 23 _ ((Below.heap_setCell ww2 ⟨w.heap.size + 1 + 1, 4, none⟩ (.int .i64 ((formL 7).number x)) (w.heap.size + 1) (by simp)).trans HZww2.out) size_ins rfl (by simp [Value.oneCell']) ?_))
  exact bodyPost_ret (v := .agg #[.int .i64 op, .int .i64 (fldZ x 11 7), .int .i64 (fldZ x 19 15), .int .i64 (0), .int .i64 ((formL 7).number x), .int .i64 (0), .bool (false), .bool (false)]) (results_cell_row (show Tryz.f55.results = #[.cell 6 23] by kernel_rfl) _ _ (w.heap.size + 1) 23 _ _ _ rfl (setRow_heap _ _ _ _ _ _ ((Below.heap_setCell ww2 ⟨w.heap.size + 1 + 1, 4, none⟩ (.int .i64 ((formL 7).number x)) (w.heap.size + 1) (by simp)).trans HZww2.out)) Tryz.underlying23 rfl size_ins) rfl ⟨rfl, below_setRow (HBww2.out.setCell (by show w.heap.size ≤ w.heap.size + 1 + 1; omega) _) (by omega) _⟩
set_option maxHeartbeats 1000000 in
theorem read_7 (op x : Int) (w : World) :
    Calls Tryz.prog 55 #[.agg #[.int .u32 4261441663, .bool true, .bool true, .bool true, .int .i64 0, .bool false, .bool false], .int .i64 op, .int .u32 x] w fun e w' => e = .returned (.agg #[.int .i64 op, .int .i64 (fldZ x 11 7), .int .i64 (fldZ x 19 15), .int .i64 (fldZ x 24 20), .int .i64 (0), .int .i64 (0), .bool (false), .bool (false)]) ∧ Below w.heap.size w w' := by
  have HI : Hid (∀ w, Calls Tryz.prog 90 #[.int .i64 0, .int .u32 x] w fun e w' => e = .returned (.tuple #[.int .i64 (0), .bool false]) ∧ Below w.heap.size w w') := Lib.hid fun w => progNumber_no 0 (by omega) x w
  go_enter Tryz.func55, Tryz.ntmps55
  go_wp2_with (first
    | (go_at_call 88; (with_reducible refine (reg7 _ _).mono ?_); rintro e w3 ⟨rfl, rfl⟩)
    | (go_at_call 88; (with_reducible refine (reg15 _ _).mono ?_); rintro e w3 ⟨rfl, rfl⟩)
    | (go_at_call 88; (with_reducible refine (reg20 _ _).mono ?_); rintro e w3 ⟨rfl, rfl⟩)
    | (go_at_call 90; (with_reducible refine (HI.out _).mono ?_); rintro e ww2 ⟨rfl, hb2⟩; obtain ⟨HBww2, HZww2, HCww2, hpww2, hsww2⟩ := rows3 hb2; have qww20 : ww2.cell? ⟨w.heap.size + 1 + 1, 0, none⟩ = some (.int .i64 op) := (by rw [cell_of_row _ _ _ _ _ _ HCww2.out]; rfl); have qww21 : ww2.cell? ⟨w.heap.size + 1 + 1, 1, none⟩ = some (.int .i64 (fldZ x 11 7)) := (by rw [cell_of_row _ _ _ _ _ _ HCww2.out]; rfl); have qww22 : ww2.cell? ⟨w.heap.size + 1 + 1, 2, none⟩ = some (.int .i64 (fldZ x 19 15)) := (by rw [cell_of_row _ _ _ _ _ _ HCww2.out]; rfl); have qww23 : ww2.cell? ⟨w.heap.size + 1 + 1, 3, none⟩ = some (.int .i64 (fldZ x 24 20)) := (by rw [cell_of_row _ _ _ _ _ _ HCww2.out]; rfl); have qww24 : ww2.cell? ⟨w.heap.size + 1 + 1, 4, none⟩ = some (.int .i64 (0)) := (by rw [cell_of_row _ _ _ _ _ _ HCww2.out]; rfl); have qww25 : ww2.cell? ⟨w.heap.size + 1 + 1, 5, none⟩ = some (.int .i64 (0)) := (by rw [cell_of_row _ _ _ _ _ _ HCww2.out]; rfl); have qww26 : ww2.cell? ⟨w.heap.size + 1 + 1, 6, none⟩ = some (.bool (false)) := (by rw [cell_of_row _ _ _ _ _ _ HCww2.out]; rfl); have qww27 : ww2.cell? ⟨w.heap.size + 1 + 1, 7, none⟩ = some (.bool (false)) := (by rw [cell_of_row _ _ _ _ _ _ HCww2.out]; rfl); have qfww2 : ∀ j, ww2.frozen? ⟨w.heap.size + 1 + 1, j, none⟩ = false := fun j => frozen_of_row _ _ _ _ _ HCww2.out; have pww2 : ww2.cell? ⟨w.heap.size, 4, none⟩ = some (.int .i64 0) := (by rw [hpww2]; rfl); clear hb2 hpww2)
    | (refine wpList_store_row rfl _ _ _ rfl (w.heap.size + 1) _ rfl rfl 23 _ ((Below.heap_setCell ww2 ⟨w.heap.size + 1 + 1, 4, none⟩ (.int .i64 (0)) (w.heap.size + 1) (by simp)).trans HZww2.out) size_ins rfl (by simp [Value.oneCell']) ?_))
  exact bodyPost_ret (v := .agg #[.int .i64 op, .int .i64 (fldZ x 11 7), .int .i64 (fldZ x 19 15), .int .i64 (fldZ x 24 20), .int .i64 (0), .int .i64 (0), .bool (false), .bool (false)]) (results_cell_row (show Tryz.f55.results = #[.cell 6 23] by kernel_rfl) _ _ (w.heap.size + 1) 23 _ _ _ rfl (setRow_heap _ _ _ _ _ _ ((Below.heap_setCell ww2 ⟨w.heap.size + 1 + 1, 4, none⟩ (.int .i64 (0)) (w.heap.size + 1) (by simp)).trans HZww2.out)) Tryz.underlying23 rfl size_ins) rfl ⟨rfl, below_setRow (HBww2.out.setCell (by show w.heap.size ≤ w.heap.size + 1 + 1; omega) _) (by omega) _⟩
set_option maxHeartbeats 1000000 in
theorem read_8 (op x : Int) (w : World) :
    Calls Tryz.prog 55 #[.agg #[.int .u32 4193284223, .bool true, .bool true, .bool false, .int .i64 0, .bool false, .bool true], .int .i64 op, .int .u32 x] w fun e w' => e = .returned (.agg #[.int .i64 op, .int .i64 (fldZ x 11 7), .int .i64 (fldZ x 19 15), .int .i64 (0), .int .i64 (0), .int .i64 (0), .bool (fldZ x 26 26 == 1), .bool (fldZ x 25 25 == 1)]) ∧ Below w.heap.size w w' := by
  have HI : Hid (∀ w, Calls Tryz.prog 90 #[.int .i64 0, .int .u32 x] w fun e w' => e = .returned (.tuple #[.int .i64 (0), .bool false]) ∧ Below w.heap.size w w') := Lib.hid fun w => progNumber_no 0 (by omega) x w
  go_enter Tryz.func55, Tryz.ntmps55
  go_wp2_with (first
    | (go_at_call 88; (with_reducible refine (reg7 _ _).mono ?_); rintro e w3 ⟨rfl, rfl⟩)
    | (go_at_call 88; (with_reducible refine (reg15 _ _).mono ?_); rintro e w3 ⟨rfl, rfl⟩)
    | (go_at_call 89; (with_reducible refine (field_any _ _ _ _).mono ?_); rintro e w3 ⟨rfl, rfl⟩)
    | (go_at_call 90; (with_reducible refine (HI.out _).mono ?_); rintro e ww2 ⟨rfl, hb2⟩; obtain ⟨HBww2, HZww2, HCww2, hpww2, hsww2⟩ := rows3 hb2; have qww20 : ww2.cell? ⟨w.heap.size + 1 + 1, 0, none⟩ = some (.int .i64 op) := (by rw [cell_of_row _ _ _ _ _ _ HCww2.out]; rfl); have qww21 : ww2.cell? ⟨w.heap.size + 1 + 1, 1, none⟩ = some (.int .i64 (fldZ x 11 7)) := (by rw [cell_of_row _ _ _ _ _ _ HCww2.out]; rfl); have qww22 : ww2.cell? ⟨w.heap.size + 1 + 1, 2, none⟩ = some (.int .i64 (fldZ x 19 15)) := (by rw [cell_of_row _ _ _ _ _ _ HCww2.out]; rfl); have qww23 : ww2.cell? ⟨w.heap.size + 1 + 1, 3, none⟩ = some (.int .i64 (0)) := (by rw [cell_of_row _ _ _ _ _ _ HCww2.out]; rfl); have qww24 : ww2.cell? ⟨w.heap.size + 1 + 1, 4, none⟩ = some (.int .i64 (0)) := (by rw [cell_of_row _ _ _ _ _ _ HCww2.out]; rfl); have qww25 : ww2.cell? ⟨w.heap.size + 1 + 1, 5, none⟩ = some (.int .i64 (0)) := (by rw [cell_of_row _ _ _ _ _ _ HCww2.out]; rfl); have qww26 : ww2.cell? ⟨w.heap.size + 1 + 1, 6, none⟩ = some (.bool (fldZ x 26 26 == 1)) := (by rw [cell_of_row _ _ _ _ _ _ HCww2.out]; rfl); have qww27 : ww2.cell? ⟨w.heap.size + 1 + 1, 7, none⟩ = some (.bool (fldZ x 25 25 == 1)) := (by rw [cell_of_row _ _ _ _ _ _ HCww2.out]; rfl); have qfww2 : ∀ j, ww2.frozen? ⟨w.heap.size + 1 + 1, j, none⟩ = false := fun j => frozen_of_row _ _ _ _ _ HCww2.out; have pww2 : ww2.cell? ⟨w.heap.size, 4, none⟩ = some (.int .i64 0) := (by rw [hpww2]; rfl); clear hb2 hpww2)
    | (refine wpList_store_row rfl _ _ _ rfl (w.heap.size + 1) _ rfl rfl 23 _ ((Below.heap_setCell ww2 ⟨w.heap.size + 1 + 1, 4, none⟩ (.int .i64 (0)) (w.heap.size + 1) (by simp)).trans HZww2.out) size_ins rfl (by simp [Value.oneCell']) ?_))
  exact bodyPost_ret (v := .agg #[.int .i64 op, .int .i64 (fldZ x 11 7), .int .i64 (fldZ x 19 15), .int .i64 (0), .int .i64 (0), .int .i64 (0), .bool (fldZ x 26 26 == 1), .bool (fldZ x 25 25 == 1)]) (results_cell_row (show Tryz.f55.results = #[.cell 6 23] by kernel_rfl) _ _ (w.heap.size + 1) 23 _ _ _ rfl (setRow_heap _ _ _ _ _ _ ((Below.heap_setCell ww2 ⟨w.heap.size + 1 + 1, 4, none⟩ (.int .i64 (0)) (w.heap.size + 1) (by simp)).trans HZww2.out)) Tryz.underlying23 rfl size_ins) rfl ⟨rfl, below_setRow (HBww2.out.setCell (by show w.heap.size ≤ w.heap.size + 1 + 1; omega) _) (by omega) _⟩
set_option maxHeartbeats 1000000 in
theorem read_9 (op x : Int) (w : World) :
    Calls Tryz.prog 55 #[.agg #[.int .u32 4160778367, .bool true, .bool true, .bool true, .int .i64 0, .bool false, .bool true], .int .i64 op, .int .u32 x] w fun e w' => e = .returned (.agg #[.int .i64 op, .int .i64 (fldZ x 11 7), .int .i64 (fldZ x 19 15), .int .i64 (fldZ x 24 20), .int .i64 (0), .int .i64 (0), .bool (fldZ x 26 26 == 1), .bool (fldZ x 25 25 == 1)]) ∧ Below w.heap.size w w' := by
  have HI : Hid (∀ w, Calls Tryz.prog 90 #[.int .i64 0, .int .u32 x] w fun e w' => e = .returned (.tuple #[.int .i64 (0), .bool false]) ∧ Below w.heap.size w w') := Lib.hid fun w => progNumber_no 0 (by omega) x w
  go_enter Tryz.func55, Tryz.ntmps55
  go_wp2_with (first
    | (go_at_call 88; (with_reducible refine (reg7 _ _).mono ?_); rintro e w3 ⟨rfl, rfl⟩)
    | (go_at_call 88; (with_reducible refine (reg15 _ _).mono ?_); rintro e w3 ⟨rfl, rfl⟩)
    | (go_at_call 88; (with_reducible refine (reg20 _ _).mono ?_); rintro e w3 ⟨rfl, rfl⟩)
    | (go_at_call 89; (with_reducible refine (field_any _ _ _ _).mono ?_); rintro e w3 ⟨rfl, rfl⟩)
    | (go_at_call 90; (with_reducible refine (HI.out _).mono ?_); rintro e ww2 ⟨rfl, hb2⟩; obtain ⟨HBww2, HZww2, HCww2, hpww2, hsww2⟩ := rows3 hb2; have qww20 : ww2.cell? ⟨w.heap.size + 1 + 1, 0, none⟩ = some (.int .i64 op) := (by rw [cell_of_row _ _ _ _ _ _ HCww2.out]; rfl); have qww21 : ww2.cell? ⟨w.heap.size + 1 + 1, 1, none⟩ = some (.int .i64 (fldZ x 11 7)) := (by rw [cell_of_row _ _ _ _ _ _ HCww2.out]; rfl); have qww22 : ww2.cell? ⟨w.heap.size + 1 + 1, 2, none⟩ = some (.int .i64 (fldZ x 19 15)) := (by rw [cell_of_row _ _ _ _ _ _ HCww2.out]; rfl); have qww23 : ww2.cell? ⟨w.heap.size + 1 + 1, 3, none⟩ = some (.int .i64 (fldZ x 24 20)) := (by rw [cell_of_row _ _ _ _ _ _ HCww2.out]; rfl); have qww24 : ww2.cell? ⟨w.heap.size + 1 + 1, 4, none⟩ = some (.int .i64 (0)) := (by rw [cell_of_row _ _ _ _ _ _ HCww2.out]; rfl); have qww25 : ww2.cell? ⟨w.heap.size + 1 + 1, 5, none⟩ = some (.int .i64 (0)) := (by rw [cell_of_row _ _ _ _ _ _ HCww2.out]; rfl); have qww26 : ww2.cell? ⟨w.heap.size + 1 + 1, 6, none⟩ = some (.bool (fldZ x 26 26 == 1)) := (by rw [cell_of_row _ _ _ _ _ _ HCww2.out]; rfl); have qww27 : ww2.cell? ⟨w.heap.size + 1 + 1, 7, none⟩ = some (.bool (fldZ x 25 25 == 1)) := (by rw [cell_of_row _ _ _ _ _ _ HCww2.out]; rfl); have qfww2 : ∀ j, ww2.frozen? ⟨w.heap.size + 1 + 1, j, none⟩ = false := fun j => frozen_of_row _ _ _ _ _ HCww2.out; have pww2 : ww2.cell? ⟨w.heap.size, 4, none⟩ = some (.int .i64 0) := (by rw [hpww2]; rfl); clear hb2 hpww2)
    | (refine wpList_store_row rfl _ _ _ rfl (w.heap.size + 1) _ rfl rfl 23 _ ((Below.heap_setCell ww2 ⟨w.heap.size + 1 + 1, 4, none⟩ (.int .i64 (0)) (w.heap.size + 1) (by simp)).trans HZww2.out) size_ins rfl (by simp [Value.oneCell']) ?_))
  exact bodyPost_ret (v := .agg #[.int .i64 op, .int .i64 (fldZ x 11 7), .int .i64 (fldZ x 19 15), .int .i64 (fldZ x 24 20), .int .i64 (0), .int .i64 (0), .bool (fldZ x 26 26 == 1), .bool (fldZ x 25 25 == 1)]) (results_cell_row (show Tryz.f55.results = #[.cell 6 23] by kernel_rfl) _ _ (w.heap.size + 1) 23 _ _ _ rfl (setRow_heap _ _ _ _ _ _ ((Below.heap_setCell ww2 ⟨w.heap.size + 1 + 1, 4, none⟩ (.int .i64 (0)) (w.heap.size + 1) (by simp)).trans HZww2.out)) Tryz.underlying23 rfl size_ins) rfl ⟨rfl, below_setRow (HBww2.out.setCell (by show w.heap.size ≤ w.heap.size + 1 + 1; omega) _) (by omega) _⟩
set_option maxHeartbeats 1000000 in
theorem read_10 (op x : Int) (w : World) :
    Calls Tryz.prog 55 #[.agg #[.int .u32 4294967295, .bool false, .bool false, .bool false, .int .i64 0, .bool false, .bool false], .int .i64 op, .int .u32 x] w fun e w' => e = .returned (.agg #[.int .i64 op, .int .i64 (0), .int .i64 (0), .int .i64 (0), .int .i64 (0), .int .i64 (0), .bool (false), .bool (false)]) ∧ Below w.heap.size w w' := by
  have HI : Hid (∀ w, Calls Tryz.prog 90 #[.int .i64 0, .int .u32 x] w fun e w' => e = .returned (.tuple #[.int .i64 (0), .bool false]) ∧ Below w.heap.size w w') := Lib.hid fun w => progNumber_no 0 (by omega) x w
  go_enter Tryz.func55, Tryz.ntmps55
  go_wp2_with (first
    | (go_at_call 90; (with_reducible refine (HI.out _).mono ?_); rintro e ww2 ⟨rfl, hb2⟩; obtain ⟨HBww2, HZww2, HCww2, hpww2, hsww2⟩ := rows3 hb2; have qww20 : ww2.cell? ⟨w.heap.size + 1 + 1, 0, none⟩ = some (.int .i64 op) := (by rw [cell_of_row _ _ _ _ _ _ HCww2.out]; rfl); have qww21 : ww2.cell? ⟨w.heap.size + 1 + 1, 1, none⟩ = some (.int .i64 (0)) := (by rw [cell_of_row _ _ _ _ _ _ HCww2.out]; rfl); have qww22 : ww2.cell? ⟨w.heap.size + 1 + 1, 2, none⟩ = some (.int .i64 (0)) := (by rw [cell_of_row _ _ _ _ _ _ HCww2.out]; rfl); have qww23 : ww2.cell? ⟨w.heap.size + 1 + 1, 3, none⟩ = some (.int .i64 (0)) := (by rw [cell_of_row _ _ _ _ _ _ HCww2.out]; rfl); have qww24 : ww2.cell? ⟨w.heap.size + 1 + 1, 4, none⟩ = some (.int .i64 (0)) := (by rw [cell_of_row _ _ _ _ _ _ HCww2.out]; rfl); have qww25 : ww2.cell? ⟨w.heap.size + 1 + 1, 5, none⟩ = some (.int .i64 (0)) := (by rw [cell_of_row _ _ _ _ _ _ HCww2.out]; rfl); have qww26 : ww2.cell? ⟨w.heap.size + 1 + 1, 6, none⟩ = some (.bool (false)) := (by rw [cell_of_row _ _ _ _ _ _ HCww2.out]; rfl); have qww27 : ww2.cell? ⟨w.heap.size + 1 + 1, 7, none⟩ = some (.bool (false)) := (by rw [cell_of_row _ _ _ _ _ _ HCww2.out]; rfl); have qfww2 : ∀ j, ww2.frozen? ⟨w.heap.size + 1 + 1, j, none⟩ = false := fun j => frozen_of_row _ _ _ _ _ HCww2.out; have pww2 : ww2.cell? ⟨w.heap.size, 4, none⟩ = some (.int .i64 0) := (by rw [hpww2]; rfl); clear hb2 hpww2)
    | (refine wpList_store_row rfl _ _ _ rfl (w.heap.size + 1) _ rfl rfl 23 _ ((Below.heap_setCell ww2 ⟨w.heap.size + 1 + 1, 4, none⟩ (.int .i64 (0)) (w.heap.size + 1) (by simp)).trans HZww2.out) size_ins rfl (by simp [Value.oneCell']) ?_))
  exact bodyPost_ret (v := .agg #[.int .i64 op, .int .i64 (0), .int .i64 (0), .int .i64 (0), .int .i64 (0), .int .i64 (0), .bool (false), .bool (false)]) (results_cell_row (show Tryz.f55.results = #[.cell 6 23] by kernel_rfl) _ _ (w.heap.size + 1) 23 _ _ _ rfl (setRow_heap _ _ _ _ _ _ ((Below.heap_setCell ww2 ⟨w.heap.size + 1 + 1, 4, none⟩ (.int .i64 (0)) (w.heap.size + 1) (by simp)).trans HZww2.out)) Tryz.underlying23 rfl size_ins) rfl ⟨rfl, below_setRow (HBww2.out.setCell (by show w.heap.size ≤ w.heap.size + 1 + 1; omega) _) (by omega) _⟩
set_option maxHeartbeats 1000000 in
theorem read_11 (op x : Int) (w : World) :
    Calls Tryz.prog 55 #[.agg #[.int .u32 4261445631, .bool false, .bool true, .bool true, .int .i64 0, .bool false, .bool false], .int .i64 op, .int .u32 x] w fun e w' => e = .returned (.agg #[.int .i64 op, .int .i64 (0), .int .i64 (fldZ x 19 15), .int .i64 (fldZ x 24 20), .int .i64 (0), .int .i64 (0), .bool (false), .bool (false)]) ∧ Below w.heap.size w w' := by
  have HI : Hid (∀ w, Calls Tryz.prog 90 #[.int .i64 0, .int .u32 x] w fun e w' => e = .returned (.tuple #[.int .i64 (0), .bool false]) ∧ Below w.heap.size w w') := Lib.hid fun w => progNumber_no 0 (by omega) x w
  go_enter Tryz.func55, Tryz.ntmps55
  go_wp2_with (first
    | (go_at_call 88; (with_reducible refine (reg15 _ _).mono ?_); rintro e w3 ⟨rfl, rfl⟩)
    | (go_at_call 88; (with_reducible refine (reg20 _ _).mono ?_); rintro e w3 ⟨rfl, rfl⟩)
    | (go_at_call 90; (with_reducible refine (HI.out _).mono ?_); rintro e ww2 ⟨rfl, hb2⟩; obtain ⟨HBww2, HZww2, HCww2, hpww2, hsww2⟩ := rows3 hb2; have qww20 : ww2.cell? ⟨w.heap.size + 1 + 1, 0, none⟩ = some (.int .i64 op) := (by rw [cell_of_row _ _ _ _ _ _ HCww2.out]; rfl); have qww21 : ww2.cell? ⟨w.heap.size + 1 + 1, 1, none⟩ = some (.int .i64 (0)) := (by rw [cell_of_row _ _ _ _ _ _ HCww2.out]; rfl); have qww22 : ww2.cell? ⟨w.heap.size + 1 + 1, 2, none⟩ = some (.int .i64 (fldZ x 19 15)) := (by rw [cell_of_row _ _ _ _ _ _ HCww2.out]; rfl); have qww23 : ww2.cell? ⟨w.heap.size + 1 + 1, 3, none⟩ = some (.int .i64 (fldZ x 24 20)) := (by rw [cell_of_row _ _ _ _ _ _ HCww2.out]; rfl); have qww24 : ww2.cell? ⟨w.heap.size + 1 + 1, 4, none⟩ = some (.int .i64 (0)) := (by rw [cell_of_row _ _ _ _ _ _ HCww2.out]; rfl); have qww25 : ww2.cell? ⟨w.heap.size + 1 + 1, 5, none⟩ = some (.int .i64 (0)) := (by rw [cell_of_row _ _ _ _ _ _ HCww2.out]; rfl); have qww26 : ww2.cell? ⟨w.heap.size + 1 + 1, 6, none⟩ = some (.bool (false)) := (by rw [cell_of_row _ _ _ _ _ _ HCww2.out]; rfl); have qww27 : ww2.cell? ⟨w.heap.size + 1 + 1, 7, none⟩ = some (.bool (false)) := (by rw [cell_of_row _ _ _ _ _ _ HCww2.out]; rfl); have qfww2 : ∀ j, ww2.frozen? ⟨w.heap.size + 1 + 1, j, none⟩ = false := fun j => frozen_of_row _ _ _ _ _ HCww2.out; have pww2 : ww2.cell? ⟨w.heap.size, 4, none⟩ = some (.int .i64 0) := (by rw [hpww2]; rfl); clear hb2 hpww2)
    | (refine wpList_store_row rfl _ _ _ rfl (w.heap.size + 1) _ rfl rfl 23 _ ((Below.heap_setCell ww2 ⟨w.heap.size + 1 + 1, 4, none⟩ (.int .i64 (0)) (w.heap.size + 1) (by simp)).trans HZww2.out) size_ins rfl (by simp [Value.oneCell']) ?_))
  exact bodyPost_ret (v := .agg #[.int .i64 op, .int .i64 (0), .int .i64 (fldZ x 19 15), .int .i64 (fldZ x 24 20), .int .i64 (0), .int .i64 (0), .bool (false), .bool (false)]) (results_cell_row (show Tryz.f55.results = #[.cell 6 23] by kernel_rfl) _ _ (w.heap.size + 1) 23 _ _ _ rfl (setRow_heap _ _ _ _ _ _ ((Below.heap_setCell ww2 ⟨w.heap.size + 1 + 1, 4, none⟩ (.int .i64 (0)) (w.heap.size + 1) (by simp)).trans HZww2.out)) Tryz.underlying23 rfl size_ins) rfl ⟨rfl, below_setRow (HBww2.out.setCell (by show w.heap.size ≤ w.heap.size + 1 + 1; omega) _) (by omega) _⟩
set_option maxHeartbeats 1000000 in
theorem read_12 (op x : Int) (w : World) :
    Calls Tryz.prog 55 #[.agg #[.int .u32 28799, .bool true, .bool true, .bool false, .int .i64 0, .bool true, .bool false], .int .i64 op, .int .u32 x] w fun e w' => e = .returned (.agg #[.int .i64 op, .int .i64 (fldZ x 11 7), .int .i64 (fldZ x 19 15), .int .i64 (0), .int .i64 (0), .int .i64 (fldZ x 31 20), .bool (false), .bool (false)]) ∧ Below w.heap.size w w' := by
  have HI : Hid (∀ w, Calls Tryz.prog 90 #[.int .i64 0, .int .u32 x] w fun e w' => e = .returned (.tuple #[.int .i64 (0), .bool false]) ∧ Below w.heap.size w w') := Lib.hid fun w => progNumber_no 0 (by omega) x w
  go_enter Tryz.func55, Tryz.ntmps55
  go_wp2_with (first
    | (go_at_call 88; (with_reducible refine (reg7 _ _).mono ?_); rintro e w3 ⟨rfl, rfl⟩)
    | (go_at_call 88; (with_reducible refine (reg15 _ _).mono ?_); rintro e w3 ⟨rfl, rfl⟩)
    | (go_at_call 90; (with_reducible refine (num8 _ _).mono ?_); rintro e ww1 ⟨rfl, hb1⟩; obtain ⟨HBww1, HZww1, HCww1, hpww1, hsww1⟩ := rows3 hb1; have qww10 : ww1.cell? ⟨w.heap.size + 1 + 1, 0, none⟩ = some (.int .i64 op) := (by rw [cell_of_row _ _ _ _ _ _ HCww1.out]; rfl); have qww11 : ww1.cell? ⟨w.heap.size + 1 + 1, 1, none⟩ = some (.int .i64 (fldZ x 11 7)) := (by rw [cell_of_row _ _ _ _ _ _ HCww1.out]; rfl); have qww12 : ww1.cell? ⟨w.heap.size + 1 + 1, 2, none⟩ = some (.int .i64 (fldZ x 19 15)) := (by rw [cell_of_row _ _ _ _ _ _ HCww1.out]; rfl); have qww13 : ww1.cell? ⟨w.heap.size + 1 + 1, 3, none⟩ = some (.int .i64 (0)) := (by rw [cell_of_row _ _ _ _ _ _ HCww1.out]; rfl); have qww14 : ww1.cell? ⟨w.heap.size + 1 + 1, 4, none⟩ = some (.int .i64 (0)) := (by rw [cell_of_row _ _ _ _ _ _ HCww1.out]; rfl); have qww15 : ww1.cell? ⟨w.heap.size + 1 + 1, 5, none⟩ = some (.int .i64 (0)) := (by rw [cell_of_row _ _ _ _ _ _ HCww1.out]; rfl); have qww16 : ww1.cell? ⟨w.heap.size + 1 + 1, 6, none⟩ = some (.bool (false)) := (by rw [cell_of_row _ _ _ _ _ _ HCww1.out]; rfl); have qww17 : ww1.cell? ⟨w.heap.size + 1 + 1, 7, none⟩ = some (.bool (false)) := (by rw [cell_of_row _ _ _ _ _ _ HCww1.out]; rfl); have qfww1 : ∀ j, ww1.frozen? ⟨w.heap.size + 1 + 1, j, none⟩ = false := fun j => frozen_of_row _ _ _ _ _ HCww1.out; have pww1 : ww1.cell? ⟨w.heap.size, 4, none⟩ = some (.int .i64 0) := (by rw [hpww1]; rfl); clear hb1 hpww1)
    | (go_at_call 90; (with_reducible refine (HI.out _).mono ?_); rintro e ww2 ⟨rfl, hb2⟩; have HBww2 : Hid (Below w.heap.size w ww2) := Lib.hid ((HBww1.out.setCell (by show w.heap.size ≤ w.heap.size + 1 + 1; omega) _).trans (hb2.mono (by rw [World.size_setCell]; omega))); have HZww2 : Hid (ww2.heap[w.heap.size + 1]? = some (.cells #[.int .i64 0, .int .i64 0, .int .i64 0, .int .i64 0, .int .i64 0, .int .i64 0, .bool false, .bool false] 23 (0, 0))) := Lib.hid ((hb2.block (w.heap.size + 1) (by rw [World.size_setCell]; omega)).trans ((Below.heap_setCell ww1 ⟨w.heap.size + 1 + 1, 5, none⟩ (.int .i64 (fldZ x 31 20)) (w.heap.size + 1) (by simp)).trans HZww1.out)); have qww20 : ww2.cell? ⟨w.heap.size + 1 + 1, 0, none⟩ = some (.int .i64 op) := ((hb2.cell (p := ⟨w.heap.size + 1 + 1, 0, none⟩) (by rw [World.size_setCell]; omega)).trans (by go_simp)); have qww21 : ww2.cell? ⟨w.heap.size + 1 + 1, 1, none⟩ = some (.int .i64 (fldZ x 11 7)) := ((hb2.cell (p := ⟨w.heap.size + 1 + 1, 1, none⟩) (by rw [World.size_setCell]; omega)).trans (by go_simp)); have qww22 : ww2.cell? ⟨w.heap.size + 1 + 1, 2, none⟩ = some (.int .i64 (fldZ x 19 15)) := ((hb2.cell (p := ⟨w.heap.size + 1 + 1, 2, none⟩) (by rw [World.size_setCell]; omega)).trans (by go_simp)); have qww23 : ww2.cell? ⟨w.heap.size + 1 + 1, 3, none⟩ = some (.int .i64 (0)) := ((hb2.cell (p := ⟨w.heap.size + 1 + 1, 3, none⟩) (by rw [World.size_setCell]; omega)).trans (by go_simp)); have qww24 : ww2.cell? ⟨w.heap.size + 1 + 1, 4, none⟩ = some (.int .i64 (0)) := ((hb2.cell (p := ⟨w.heap.size + 1 + 1, 4, none⟩) (by rw [World.size_setCell]; omega)).trans (by go_simp)); have qww25 : ww2.cell? ⟨w.heap.size + 1 + 1, 5, none⟩ = some (.int .i64 (fldZ x 31 20)) := ((hb2.cell (p := ⟨w.heap.size + 1 + 1, 5, none⟩) (by rw [World.size_setCell]; omega)).trans (by go_simp)); have qww26 : ww2.cell? ⟨w.heap.size + 1 + 1, 6, none⟩ = some (.bool (false)) := ((hb2.cell (p := ⟨w.heap.size + 1 + 1, 6, none⟩) (by rw [World.size_setCell]; omega)).trans (by go_simp)); have qww27 : ww2.cell? ⟨w.heap.size + 1 + 1, 7, none⟩ = some (.bool (false)) := ((hb2.cell (p := ⟨w.heap.size + 1 + 1, 7, none⟩) (by rw [World.size_setCell]; omega)).trans (by go_simp)); have qfww2 : ∀ j, ww2.frozen? ⟨w.heap.size + 1 + 1, j, none⟩ = false := (fun j => (hb2.frozen (p := ⟨w.heap.size + 1 + 1, j, none⟩) (by rw [World.size_setCell]; omega)).trans (by go_simp)); clear hb2)
    | (refine wpList_store_row rfl _ _ _ rfl (w.heap.size + 1) _ rfl rfl 23 _ ((Below.heap_setCell ww2 ⟨w.heap.size + 1 + 1, 4, none⟩ (.int .i64 (0)) (w.heap.size + 1) (by simp)).trans HZww2.out) size_ins rfl (by simp [Value.oneCell']) ?_))
  exact bodyPost_ret (v := .agg #[.int .i64 op, .int .i64 (fldZ x 11 7), .int .i64 (fldZ x 19 15), .int .i64 (0), .int .i64 (0), .int .i64 (fldZ x 31 20), .bool (false), .bool (false)]) (results_cell_row (show Tryz.f55.results = #[.cell 6 23] by kernel_rfl) _ _ (w.heap.size + 1) 23 _ _ _ rfl (setRow_heap _ _ _ _ _ _ ((Below.heap_setCell ww2 ⟨w.heap.size + 1 + 1, 4, none⟩ (.int .i64 (0)) (w.heap.size + 1) (by simp)).trans HZww2.out)) Tryz.underlying23 rfl size_ins) rfl ⟨rfl, below_setRow (HBww2.out.setCell (by show w.heap.size ≤ w.heap.size + 1 + 1; omega) _) (by omega) _⟩
set_option maxHeartbeats 1000000 in
theorem read_13 (op x : Int) (w : World) :
    Calls Tryz.prog 55 #[.agg #[.int .u32 28799, .bool true, .bool false, .bool false, .int .i64 9, .bool true, .bool false], .int .i64 op, .int .u32 x] w fun e w' => e = .returned (.agg #[.int .i64 op, .int .i64 (fldZ x 11 7), .int .i64 (0), .int .i64 (0), .int .i64 ((formL 9).number x), .int .i64 (fldZ x 31 20), .bool (false), .bool (false)]) ∧ Below w.heap.size w w' := by
  have HI : Hid (∀ w, Calls Tryz.prog 90 #[.int .i64 9, .int .u32 x] w fun e w' => e = .returned (.tuple #[.int .i64 ((formL 9).number x), .bool true]) ∧ Below w.heap.size w w') := Lib.hid fun w => progNumber 9 (by omega) x w
  go_enter Tryz.func55, Tryz.ntmps55
  go_wp2_with (first
    | (go_at_call 88; (with_reducible refine (reg7 _ _).mono ?_); rintro e w3 ⟨rfl, rfl⟩)
    | (go_at_call 90; (with_reducible refine (num8 _ _).mono ?_); rintro e ww1 ⟨rfl, hb1⟩; obtain ⟨HBww1, HZww1, HCww1, hpww1, hsww1⟩ := rows3 hb1; have qww10 : ww1.cell? ⟨w.heap.size + 1 + 1, 0, none⟩ = some (.int .i64 op) := (by rw [cell_of_row _ _ _ _ _ _ HCww1.out]; rfl); have qww11 : ww1.cell? ⟨w.heap.size + 1 + 1, 1, none⟩ = some (.int .i64 (fldZ x 11 7)) := (by rw [cell_of_row _ _ _ _ _ _ HCww1.out]; rfl); have qww12 : ww1.cell? ⟨w.heap.size + 1 + 1, 2, none⟩ = some (.int .i64 (0)) := (by rw [cell_of_row _ _ _ _ _ _ HCww1.out]; rfl); have qww13 : ww1.cell? ⟨w.heap.size + 1 + 1, 3, none⟩ = some (.int .i64 (0)) := (by rw [cell_of_row _ _ _ _ _ _ HCww1.out]; rfl); have qww14 : ww1.cell? ⟨w.heap.size + 1 + 1, 4, none⟩ = some (.int .i64 (0)) := (by rw [cell_of_row _ _ _ _ _ _ HCww1.out]; rfl); have qww15 : ww1.cell? ⟨w.heap.size + 1 + 1, 5, none⟩ = some (.int .i64 (0)) := (by rw [cell_of_row _ _ _ _ _ _ HCww1.out]; rfl); have qww16 : ww1.cell? ⟨w.heap.size + 1 + 1, 6, none⟩ = some (.bool (false)) := (by rw [cell_of_row _ _ _ _ _ _ HCww1.out]; rfl); have qww17 : ww1.cell? ⟨w.heap.size + 1 + 1, 7, none⟩ = some (.bool (false)) := (by rw [cell_of_row _ _ _ _ _ _ HCww1.out]; rfl); have qfww1 : ∀ j, ww1.frozen? ⟨w.heap.size + 1 + 1, j, none⟩ = false := fun j => frozen_of_row _ _ _ _ _ HCww1.out; have pww1 : ww1.cell? ⟨w.heap.size, 4, none⟩ = some (.int .i64 9) := (by rw [hpww1]; rfl); clear hb1 hpww1)
    | (go_at_call 90; (with_reducible refine (HI.out _).mono ?_); rintro e ww2 ⟨rfl, hb2⟩; have HBww2 : Hid (Below w.heap.size w ww2) := Lib.hid ((HBww1.out.setCell (by show w.heap.size ≤ w.heap.size + 1 + 1; omega) _).trans (hb2.mono (by rw [World.size_setCell]; omega))); have HZww2 : Hid (ww2.heap[w.heap.size + 1]? = some (.cells #[.int .i64 0, .int .i64 0, .int .i64 0, .int .i64 0, .int .i64 0, .int .i64 0, .bool false, .bool false] 23 (0, 0))) := Lib.hid ((hb2.block (w.heap.size + 1) (by rw [World.size_setCell]; omega)).trans ((Below.heap_setCell ww1 ⟨w.heap.size + 1 + 1, 5, none⟩ (.int .i64 (fldZ x 31 20)) (w.heap.size + 1) (by simp)).trans HZww1.out)); have qww20 : ww2.cell? ⟨w.heap.size + 1 + 1, 0, none⟩ = some (.int .i64 op) := ((hb2.cell (p := ⟨w.heap.size + 1 + 1, 0, none⟩) (by rw [World.size_setCell]; omega)).trans (by go_simp)); have qww21 : ww2.cell? ⟨w.heap.size + 1 + 1, 1, none⟩ = some (.int .i64 (fldZ x 11 7)) := ((hb2.cell (p := ⟨w.heap.size + 1 + 1, 1, none⟩) (by rw [World.size_setCell]; omega)).trans (by go_simp)); have qww22 : ww2.cell? ⟨w.heap.size + 1 + 1, 2, none⟩ = some (.int .i64 (0)) := ((hb2.cell (p := ⟨w.heap.size + 1 + 1, 2, none⟩) (by rw [World.size_setCell]; omega)).trans (by go_simp)); have qww23 : ww2.cell? ⟨w.heap.size + 1 + 1, 3, none⟩ = some (.int .i64 (0)) := ((hb2.cell (p := ⟨w.heap.size + 1 + 1, 3, none⟩) (by rw [World.size_setCell]; omega)).trans (by go_simp)); have qww24 : ww2.cell? ⟨w.heap.size + 1 + 1, 4, none⟩ = some (.int .i64 (0)) := ((hb2.cell (p := ⟨w.heap.size + 1 + 1, 4, none⟩) (by rw [World.size_setCell]; omega)).trans (by go_simp)); have qww25 : ww2.cell? ⟨w.heap.size + 1 + 1, 5, none⟩ = some (.int .i64 (fldZ x 31 20)) := ((hb2.cell (p := ⟨w.heap.size + 1 + 1, 5, none⟩) (by rw [World.size_setCell]; omega)).trans (by go_simp)); have qww26 : ww2.cell? ⟨w.heap.size + 1 + 1, 6, none⟩ = some (.bool (false)) := ((hb2.cell (p := ⟨w.heap.size + 1 + 1, 6, none⟩) (by rw [World.size_setCell]; omega)).trans (by go_simp)); have qww27 : ww2.cell? ⟨w.heap.size + 1 + 1, 7, none⟩ = some (.bool (false)) := ((hb2.cell (p := ⟨w.heap.size + 1 + 1, 7, none⟩) (by rw [World.size_setCell]; omega)).trans (by go_simp)); have qfww2 : ∀ j, ww2.frozen? ⟨w.heap.size + 1 + 1, j, none⟩ = false := (fun j => (hb2.frozen (p := ⟨w.heap.size + 1 + 1, j, none⟩) (by rw [World.size_setCell]; omega)).trans (by go_simp)); clear hb2)
    | (refine wpList_store_row rfl _ _ _ rfl (w.heap.size + 1) _ rfl rfl 23 _ ((Below.heap_setCell ww2 ⟨w.heap.size + 1 + 1, 4, none⟩ (.int .i64 ((formL 9).number x)) (w.heap.size + 1) (by simp)).trans HZww2.out) size_ins rfl (by simp [Value.oneCell']) ?_))
  exact bodyPost_ret (v := .agg #[.int .i64 op, .int .i64 (fldZ x 11 7), .int .i64 (0), .int .i64 (0), .int .i64 ((formL 9).number x), .int .i64 (fldZ x 31 20), .bool (false), .bool (false)]) (results_cell_row (show Tryz.f55.results = #[.cell 6 23] by kernel_rfl) _ _ (w.heap.size + 1) 23 _ _ _ rfl (setRow_heap _ _ _ _ _ _ ((Below.heap_setCell ww2 ⟨w.heap.size + 1 + 1, 4, none⟩ (.int .i64 ((formL 9).number x)) (w.heap.size + 1) (by simp)).trans HZww2.out)) Tryz.underlying23 rfl size_ins) rfl ⟨rfl, below_setRow (HBww2.out.setCell (by show w.heap.size ≤ w.heap.size + 1 + 1; omega) _) (by omega) _⟩
set_option maxHeartbeats 1000000 in
theorem read_14 (op x : Int) (w : World) :
    Calls Tryz.prog 55 #[.agg #[.int .u32 4293947519, .bool true, .bool true, .bool false, .int .i64 0, .bool false, .bool false], .int .i64 op, .int .u32 x] w fun e w' => e = .returned (.agg #[.int .i64 op, .int .i64 (fldZ x 11 7), .int .i64 (fldZ x 19 15), .int .i64 (0), .int .i64 (0), .int .i64 (0), .bool (false), .bool (false)]) ∧ Below w.heap.size w w' := by
  have HI : Hid (∀ w, Calls Tryz.prog 90 #[.int .i64 0, .int .u32 x] w fun e w' => e = .returned (.tuple #[.int .i64 (0), .bool false]) ∧ Below w.heap.size w w') := Lib.hid fun w => progNumber_no 0 (by omega) x w
  go_enter Tryz.func55, Tryz.ntmps55
  go_wp2_with (first
    | (go_at_call 88; (with_reducible refine (reg7 _ _).mono ?_); rintro e w3 ⟨rfl, rfl⟩)
    | (go_at_call 88; (with_reducible refine (reg15 _ _).mono ?_); rintro e w3 ⟨rfl, rfl⟩)
    | (go_at_call 90; (with_reducible refine (HI.out _).mono ?_); rintro e ww2 ⟨rfl, hb2⟩; obtain ⟨HBww2, HZww2, HCww2, hpww2, hsww2⟩ := rows3 hb2; have qww20 : ww2.cell? ⟨w.heap.size + 1 + 1, 0, none⟩ = some (.int .i64 op) := (by rw [cell_of_row _ _ _ _ _ _ HCww2.out]; rfl); have qww21 : ww2.cell? ⟨w.heap.size + 1 + 1, 1, none⟩ = some (.int .i64 (fldZ x 11 7)) := (by rw [cell_of_row _ _ _ _ _ _ HCww2.out]; rfl); have qww22 : ww2.cell? ⟨w.heap.size + 1 + 1, 2, none⟩ = some (.int .i64 (fldZ x 19 15)) := (by rw [cell_of_row _ _ _ _ _ _ HCww2.out]; rfl); have qww23 : ww2.cell? ⟨w.heap.size + 1 + 1, 3, none⟩ = some (.int .i64 (0)) := (by rw [cell_of_row _ _ _ _ _ _ HCww2.out]; rfl); have qww24 : ww2.cell? ⟨w.heap.size + 1 + 1, 4, none⟩ = some (.int .i64 (0)) := (by rw [cell_of_row _ _ _ _ _ _ HCww2.out]; rfl); have qww25 : ww2.cell? ⟨w.heap.size + 1 + 1, 5, none⟩ = some (.int .i64 (0)) := (by rw [cell_of_row _ _ _ _ _ _ HCww2.out]; rfl); have qww26 : ww2.cell? ⟨w.heap.size + 1 + 1, 6, none⟩ = some (.bool (false)) := (by rw [cell_of_row _ _ _ _ _ _ HCww2.out]; rfl); have qww27 : ww2.cell? ⟨w.heap.size + 1 + 1, 7, none⟩ = some (.bool (false)) := (by rw [cell_of_row _ _ _ _ _ _ HCww2.out]; rfl); have qfww2 : ∀ j, ww2.frozen? ⟨w.heap.size + 1 + 1, j, none⟩ = false := fun j => frozen_of_row _ _ _ _ _ HCww2.out; have pww2 : ww2.cell? ⟨w.heap.size, 4, none⟩ = some (.int .i64 0) := (by rw [hpww2]; rfl); clear hb2 hpww2)
    | (refine wpList_store_row rfl _ _ _ rfl (w.heap.size + 1) _ rfl rfl 23 _ ((Below.heap_setCell ww2 ⟨w.heap.size + 1 + 1, 4, none⟩ (.int .i64 (0)) (w.heap.size + 1) (by simp)).trans HZww2.out) size_ins rfl (by simp [Value.oneCell']) ?_))
  exact bodyPost_ret (v := .agg #[.int .i64 op, .int .i64 (fldZ x 11 7), .int .i64 (fldZ x 19 15), .int .i64 (0), .int .i64 (0), .int .i64 (0), .bool (false), .bool (false)]) (results_cell_row (show Tryz.f55.results = #[.cell 6 23] by kernel_rfl) _ _ (w.heap.size + 1) 23 _ _ _ rfl (setRow_heap _ _ _ _ _ _ ((Below.heap_setCell ww2 ⟨w.heap.size + 1 + 1, 4, none⟩ (.int .i64 (0)) (w.heap.size + 1) (by simp)).trans HZww2.out)) Tryz.underlying23 rfl size_ins) rfl ⟨rfl, below_setRow (HBww2.out.setCell (by show w.heap.size ≤ w.heap.size + 1 + 1; omega) _) (by omega) _⟩
end Go.Proofs.YtakdhdaoklcidaaGreatDoor

namespace Go.Proofs.YtakdhdaoklcidaaGreatDoor
open Go.RowKit
set_option linter.unusedVariables false
set_option maxRecDepth 100000
def fitB (k : Nat) (n : Int) : Bool := decide (1 ≤ k) && ((formL k).number ((formL k).word n) == n)
theorem progPutF (k : Nat) (hk : k ≤ 9) (n : Int) (w : World) :
    Calls Tryz.prog 87 #[.int .i64 k, .int .i64 n] w fun e w' => e = .returned (.tuple #[.int .u32 (putF k n), .bool (fitB k n)]) ∧ Below w.heap.size w w' := by
  by_cases h0 : k = 0
  · subst h0
    have e : putF 0 n = 0 := by unfold putF; rw [word0]; split <;> rfl
    have e2 : fitB 0 n = false := rfl
    rw [e, e2]
    exact progPut_no 0 (by omega) n w
  · cases hq : ((formL k).number ((formL k).word n) == n)
    · have e : putF k n = 0 := by unfold putF; rw [hq]; rfl
      have e2 : fitB k n = false := by unfold fitB; rw [hq]; simp
      rw [e, e2]
      exact progPut_not k (by omega) n hq w
    · have e : putF k n = (formL k).word n := by unfold putF; rw [hq]; rfl
      have e2 : fitB k n = true := by unfold fitB; rw [hq]; simp; omega
      rw [e, e2]
      exact progPut_yes k (by omega) n hq w
theorem mark_int (b : Bool) (s : Int) (h0 : 0 ≤ s) (h1 : s ≤ 31) (w : World) :
    Calls Tryz.prog 86 #[.bool b, .int .i64 s] w fun e w' => e = .returned (.int .u32 (markZ b s.toNat)) ∧ w' = w := by
  obtain ⟨n, rfl⟩ := Int.eq_ofNat_of_zero_le h0
  exact (mark_any b n (by omega) w).mono fun e w' h => ⟨h.1, h.2.symm⟩
theorem rows2 {w w2 : World} {A B : Array Value} {a b : TypeId} (h : Below ((w.alloc (.cells A a)).alloc (.cells B b)).heap.size ((w.alloc (.cells A a)).alloc (.cells B b)) w2) :
    Hid (Below w.heap.size w w2) ∧ (∀ j, w2.cell? ⟨w.heap.size, j, none⟩ = A[j]?) ∧ (∀ j, w2.cell? ⟨w.heap.size + 1, j, none⟩ = B[j]?) ∧ w.heap.size + 1 < w2.heap.size := by
  have s1 : (w.alloc (.cells A a)).heap.size = w.heap.size + 1 := World.size_alloc _ _
  have s2 : ((w.alloc (.cells A a)).alloc (.cells B b)).heap.size = w.heap.size + 1 + 1 := by rw [World.size_alloc, s1]
  have e0 : ((w.alloc (.cells A a)).alloc (.cells B b)).heap[w.heap.size]? = some (.cells A a (0, 0)) := by
    rw [Below.heap_alloc _ _ _ (by omega)]; exact heap_alloc_new w _
  have e1 : ((w.alloc (.cells A a)).alloc (.cells B b)).heap[w.heap.size + 1]? = some (.cells B b (0, 0)) := by
    rw [← s1]; exact heap_alloc_new _ _
  exact ⟨Lib.hid ((((Below.refl _ _).alloc (Nat.le_refl _) _).alloc (by omega) _).trans (h.mono (by omega))), fun j => cell_of_row _ _ _ _ _ _ ((h.block _ (by omega)).trans e0), fun j => cell_of_row _ _ _ _ _ _ ((h.block _ (by omega)).trans e1), by have := h.size; omega⟩
set_option maxHeartbeats 1000000 in
theorem write_0 (i : Ins) (w : World) :
    Calls Tryz.prog 54 #[.agg #[.int .u32 127, .bool true, .bool false, .bool false, .int .i64 4, .bool false, .bool false], .agg #[.int .i64 i.op, .int .i64 i.rd, .int .i64 i.a, .int .i64 i.b, .int .i64 i.imm, .int .i64 i.csr, .bool i.aq, .bool i.rl]] w fun e w' => e = .returned (.int .u32 (bits .or .u32 (bits .or .u32 0 (put5 i.rd 7)) (putF 4 i.imm))) ∧ Below w.heap.size w w' := by
  have H7 : Hid (∀ n w, Calls Tryz.prog 85 #[.int .i64 n, .int .i64 7] w fun e w' => e = .returned (.int .u32 (put5 n 7)) ∧ w = w') := Lib.hid fun n w => put_any n 7 (by omega) w
  have H15 : Hid (∀ n w, Calls Tryz.prog 85 #[.int .i64 n, .int .i64 15] w fun e w' => e = .returned (.int .u32 (put5 n 15)) ∧ w = w') := Lib.hid fun n w => put_any n 15 (by omega) w
  have H20 : Hid (∀ n w, Calls Tryz.prog 85 #[.int .i64 n, .int .i64 20] w fun e w' => e = .returned (.int .u32 (put5 n 20)) ∧ w = w') := Lib.hid fun n w => put_any n 20 (by omega) w
  have H8 : Hid (∀ n w, Calls Tryz.prog 87 #[.int .i64 8, .int .i64 n] w fun e w' => e = .returned (.tuple #[.int .u32 (putF 8 n), .bool (fitB 8 n)]) ∧ Below w.heap.size w w') := Lib.hid fun n w => progPutF 8 (by omega) n w
  have HI : Hid (∀ n w, Calls Tryz.prog 87 #[.int .i64 4, .int .i64 n] w fun e w' => e = .returned (.tuple #[.int .u32 (putF 4 n), .bool (fitB 4 n)]) ∧ Below w.heap.size w w') := Lib.hid fun n w => progPutF 4 (by omega) n w
  go_enter Tryz.func54, Tryz.ntmps54
  go_wp2_with (first
    | (go_at_call 85; (with_reducible refine (H7.out _ _).mono ?_); rintro e w3 ⟨rfl, rfl⟩)
    | (go_at_call 87; (with_reducible refine (HI.out _ _).mono ?_); rintro e ww2 ⟨rfl, hb2⟩; obtain ⟨HB2, hp, hq, hs⟩ := rows2 hb2; clear hb2 hp hq))
  go_ret
  exact ⟨rfl, HB2.out⟩
set_option maxHeartbeats 1000000 in
theorem write_1 (i : Ins) (w : World) :
    Calls Tryz.prog 54 #[.agg #[.int .u32 127, .bool true, .bool false, .bool false, .int .i64 5, .bool false, .bool false], .agg #[.int .i64 i.op, .int .i64 i.rd, .int .i64 i.a, .int .i64 i.b, .int .i64 i.imm, .int .i64 i.csr, .bool i.aq, .bool i.rl]] w fun e w' => e = .returned (.int .u32 (bits .or .u32 (bits .or .u32 0 (put5 i.rd 7)) (putF 5 i.imm))) ∧ Below w.heap.size w w' := by
  have H7 : Hid (∀ n w, Calls Tryz.prog 85 #[.int .i64 n, .int .i64 7] w fun e w' => e = .returned (.int .u32 (put5 n 7)) ∧ w = w') := Lib.hid fun n w => put_any n 7 (by omega) w
  have H15 : Hid (∀ n w, Calls Tryz.prog 85 #[.int .i64 n, .int .i64 15] w fun e w' => e = .returned (.int .u32 (put5 n 15)) ∧ w = w') := Lib.hid fun n w => put_any n 15 (by omega) w
  have H20 : Hid (∀ n w, Calls Tryz.prog 85 #[.int .i64 n, .int .i64 20] w fun e w' => e = .returned (.int .u32 (put5 n 20)) ∧ w = w') := Lib.hid fun n w => put_any n 20 (by omega) w
  have H8 : Hid (∀ n w, Calls Tryz.prog 87 #[.int .i64 8, .int .i64 n] w fun e w' => e = .returned (.tuple #[.int .u32 (putF 8 n), .bool (fitB 8 n)]) ∧ Below w.heap.size w w') := Lib.hid fun n w => progPutF 8 (by omega) n w
  have HI : Hid (∀ n w, Calls Tryz.prog 87 #[.int .i64 5, .int .i64 n] w fun e w' => e = .returned (.tuple #[.int .u32 (putF 5 n), .bool (fitB 5 n)]) ∧ Below w.heap.size w w') := Lib.hid fun n w => progPutF 5 (by omega) n w
  go_enter Tryz.func54, Tryz.ntmps54
  go_wp2_with (first
    | (go_at_call 85; (with_reducible refine (H7.out _ _).mono ?_); rintro e w3 ⟨rfl, rfl⟩)
    | (go_at_call 87; (with_reducible refine (HI.out _ _).mono ?_); rintro e ww2 ⟨rfl, hb2⟩; obtain ⟨HB2, hp, hq, hs⟩ := rows2 hb2; clear hb2 hp hq))
  go_ret
  exact ⟨rfl, HB2.out⟩
set_option maxHeartbeats 1000000 in
theorem write_2 (i : Ins) (w : World) :
    Calls Tryz.prog 54 #[.agg #[.int .u32 28799, .bool true, .bool true, .bool false, .int .i64 1, .bool false, .bool false], .agg #[.int .i64 i.op, .int .i64 i.rd, .int .i64 i.a, .int .i64 i.b, .int .i64 i.imm, .int .i64 i.csr, .bool i.aq, .bool i.rl]] w fun e w' => e = .returned (.int .u32 (bits .or .u32 (bits .or .u32 (bits .or .u32 0 (put5 i.rd 7)) (put5 i.a 15)) (putF 1 i.imm))) ∧ Below w.heap.size w w' := by
  have H7 : Hid (∀ n w, Calls Tryz.prog 85 #[.int .i64 n, .int .i64 7] w fun e w' => e = .returned (.int .u32 (put5 n 7)) ∧ w = w') := Lib.hid fun n w => put_any n 7 (by omega) w
  have H15 : Hid (∀ n w, Calls Tryz.prog 85 #[.int .i64 n, .int .i64 15] w fun e w' => e = .returned (.int .u32 (put5 n 15)) ∧ w = w') := Lib.hid fun n w => put_any n 15 (by omega) w
  have H20 : Hid (∀ n w, Calls Tryz.prog 85 #[.int .i64 n, .int .i64 20] w fun e w' => e = .returned (.int .u32 (put5 n 20)) ∧ w = w') := Lib.hid fun n w => put_any n 20 (by omega) w
  have H8 : Hid (∀ n w, Calls Tryz.prog 87 #[.int .i64 8, .int .i64 n] w fun e w' => e = .returned (.tuple #[.int .u32 (putF 8 n), .bool (fitB 8 n)]) ∧ Below w.heap.size w w') := Lib.hid fun n w => progPutF 8 (by omega) n w
  have HI : Hid (∀ n w, Calls Tryz.prog 87 #[.int .i64 1, .int .i64 n] w fun e w' => e = .returned (.tuple #[.int .u32 (putF 1 n), .bool (fitB 1 n)]) ∧ Below w.heap.size w w') := Lib.hid fun n w => progPutF 1 (by omega) n w
  go_enter Tryz.func54, Tryz.ntmps54
  go_wp2_with (first
    | (go_at_call 85; (with_reducible refine (H7.out _ _).mono ?_); rintro e w3 ⟨rfl, rfl⟩)
    | (go_at_call 85; (with_reducible refine (H15.out _ _).mono ?_); rintro e w3 ⟨rfl, rfl⟩)
    | (go_at_call 87; (with_reducible refine (HI.out _ _).mono ?_); rintro e ww2 ⟨rfl, hb2⟩; obtain ⟨HB2, hp, hq, hs⟩ := rows2 hb2; clear hb2 hp hq))
  go_ret
  exact ⟨rfl, HB2.out⟩
set_option maxHeartbeats 1000000 in
theorem write_3 (i : Ins) (w : World) :
    Calls Tryz.prog 54 #[.agg #[.int .u32 28799, .bool false, .bool true, .bool true, .int .i64 3, .bool false, .bool false], .agg #[.int .i64 i.op, .int .i64 i.rd, .int .i64 i.a, .int .i64 i.b, .int .i64 i.imm, .int .i64 i.csr, .bool i.aq, .bool i.rl]] w fun e w' => e = .returned (.int .u32 (bits .or .u32 (bits .or .u32 (bits .or .u32 (0) (put5 i.a 15)) (put5 i.b 20)) (putF 3 i.imm))) ∧ Below w.heap.size w w' := by
  have H7 : Hid (∀ n w, Calls Tryz.prog 85 #[.int .i64 n, .int .i64 7] w fun e w' => e = .returned (.int .u32 (put5 n 7)) ∧ w = w') := Lib.hid fun n w => put_any n 7 (by omega) w
  have H15 : Hid (∀ n w, Calls Tryz.prog 85 #[.int .i64 n, .int .i64 15] w fun e w' => e = .returned (.int .u32 (put5 n 15)) ∧ w = w') := Lib.hid fun n w => put_any n 15 (by omega) w
  have H20 : Hid (∀ n w, Calls Tryz.prog 85 #[.int .i64 n, .int .i64 20] w fun e w' => e = .returned (.int .u32 (put5 n 20)) ∧ w = w') := Lib.hid fun n w => put_any n 20 (by omega) w
  have H8 : Hid (∀ n w, Calls Tryz.prog 87 #[.int .i64 8, .int .i64 n] w fun e w' => e = .returned (.tuple #[.int .u32 (putF 8 n), .bool (fitB 8 n)]) ∧ Below w.heap.size w w') := Lib.hid fun n w => progPutF 8 (by omega) n w
  have HI : Hid (∀ n w, Calls Tryz.prog 87 #[.int .i64 3, .int .i64 n] w fun e w' => e = .returned (.tuple #[.int .u32 (putF 3 n), .bool (fitB 3 n)]) ∧ Below w.heap.size w w') := Lib.hid fun n w => progPutF 3 (by omega) n w
  go_enter Tryz.func54, Tryz.ntmps54
  go_wp2_with (first
    | (go_at_call 85; (with_reducible refine (H15.out _ _).mono ?_); rintro e w3 ⟨rfl, rfl⟩)
    | (go_at_call 85; (with_reducible refine (H20.out _ _).mono ?_); rintro e w3 ⟨rfl, rfl⟩)
    | (go_at_call 87; (with_reducible refine (HI.out _ _).mono ?_); rintro e ww2 ⟨rfl, hb2⟩; obtain ⟨HB2, hp, hq, hs⟩ := rows2 hb2; clear hb2 hp hq))
  go_ret
  exact ⟨rfl, HB2.out⟩
set_option maxHeartbeats 1000000 in
theorem write_4 (i : Ins) (w : World) :
    Calls Tryz.prog 54 #[.agg #[.int .u32 28799, .bool false, .bool true, .bool true, .int .i64 2, .bool false, .bool false], .agg #[.int .i64 i.op, .int .i64 i.rd, .int .i64 i.a, .int .i64 i.b, .int .i64 i.imm, .int .i64 i.csr, .bool i.aq, .bool i.rl]] w fun e w' => e = .returned (.int .u32 (bits .or .u32 (bits .or .u32 (bits .or .u32 (0) (put5 i.a 15)) (put5 i.b 20)) (putF 2 i.imm))) ∧ Below w.heap.size w w' := by
  have H7 : Hid (∀ n w, Calls Tryz.prog 85 #[.int .i64 n, .int .i64 7] w fun e w' => e = .returned (.int .u32 (put5 n 7)) ∧ w = w') := Lib.hid fun n w => put_any n 7 (by omega) w
  have H15 : Hid (∀ n w, Calls Tryz.prog 85 #[.int .i64 n, .int .i64 15] w fun e w' => e = .returned (.int .u32 (put5 n 15)) ∧ w = w') := Lib.hid fun n w => put_any n 15 (by omega) w
  have H20 : Hid (∀ n w, Calls Tryz.prog 85 #[.int .i64 n, .int .i64 20] w fun e w' => e = .returned (.int .u32 (put5 n 20)) ∧ w = w') := Lib.hid fun n w => put_any n 20 (by omega) w
  have H8 : Hid (∀ n w, Calls Tryz.prog 87 #[.int .i64 8, .int .i64 n] w fun e w' => e = .returned (.tuple #[.int .u32 (putF 8 n), .bool (fitB 8 n)]) ∧ Below w.heap.size w w') := Lib.hid fun n w => progPutF 8 (by omega) n w
  have HI : Hid (∀ n w, Calls Tryz.prog 87 #[.int .i64 2, .int .i64 n] w fun e w' => e = .returned (.tuple #[.int .u32 (putF 2 n), .bool (fitB 2 n)]) ∧ Below w.heap.size w w') := Lib.hid fun n w => progPutF 2 (by omega) n w
  go_enter Tryz.func54, Tryz.ntmps54
  go_wp2_with (first
    | (go_at_call 85; (with_reducible refine (H15.out _ _).mono ?_); rintro e w3 ⟨rfl, rfl⟩)
    | (go_at_call 85; (with_reducible refine (H20.out _ _).mono ?_); rintro e w3 ⟨rfl, rfl⟩)
    | (go_at_call 87; (with_reducible refine (HI.out _ _).mono ?_); rintro e ww2 ⟨rfl, hb2⟩; obtain ⟨HB2, hp, hq, hs⟩ := rows2 hb2; clear hb2 hp hq))
  go_ret
  exact ⟨rfl, HB2.out⟩
set_option maxHeartbeats 1000000 in
theorem write_5 (i : Ins) (w : World) :
    Calls Tryz.prog 54 #[.agg #[.int .u32 4227887231, .bool true, .bool true, .bool false, .int .i64 6, .bool false, .bool false], .agg #[.int .i64 i.op, .int .i64 i.rd, .int .i64 i.a, .int .i64 i.b, .int .i64 i.imm, .int .i64 i.csr, .bool i.aq, .bool i.rl]] w fun e w' => e = .returned (.int .u32 (bits .or .u32 (bits .or .u32 (bits .or .u32 0 (put5 i.rd 7)) (put5 i.a 15)) (putF 6 i.imm))) ∧ Below w.heap.size w w' := by
  have H7 : Hid (∀ n w, Calls Tryz.prog 85 #[.int .i64 n, .int .i64 7] w fun e w' => e = .returned (.int .u32 (put5 n 7)) ∧ w = w') := Lib.hid fun n w => put_any n 7 (by omega) w
  have H15 : Hid (∀ n w, Calls Tryz.prog 85 #[.int .i64 n, .int .i64 15] w fun e w' => e = .returned (.int .u32 (put5 n 15)) ∧ w = w') := Lib.hid fun n w => put_any n 15 (by omega) w
  have H20 : Hid (∀ n w, Calls Tryz.prog 85 #[.int .i64 n, .int .i64 20] w fun e w' => e = .returned (.int .u32 (put5 n 20)) ∧ w = w') := Lib.hid fun n w => put_any n 20 (by omega) w
  have H8 : Hid (∀ n w, Calls Tryz.prog 87 #[.int .i64 8, .int .i64 n] w fun e w' => e = .returned (.tuple #[.int .u32 (putF 8 n), .bool (fitB 8 n)]) ∧ Below w.heap.size w w') := Lib.hid fun n w => progPutF 8 (by omega) n w
  have HI : Hid (∀ n w, Calls Tryz.prog 87 #[.int .i64 6, .int .i64 n] w fun e w' => e = .returned (.tuple #[.int .u32 (putF 6 n), .bool (fitB 6 n)]) ∧ Below w.heap.size w w') := Lib.hid fun n w => progPutF 6 (by omega) n w
  go_enter Tryz.func54, Tryz.ntmps54
  go_wp2_with (first
    | (go_at_call 85; (with_reducible refine (H7.out _ _).mono ?_); rintro e w3 ⟨rfl, rfl⟩)
    | (go_at_call 85; (with_reducible refine (H15.out _ _).mono ?_); rintro e w3 ⟨rfl, rfl⟩)
    | (go_at_call 87; (with_reducible refine (HI.out _ _).mono ?_); rintro e ww2 ⟨rfl, hb2⟩; obtain ⟨HB2, hp, hq, hs⟩ := rows2 hb2; clear hb2 hp hq))
  go_ret
  exact ⟨rfl, HB2.out⟩
set_option maxHeartbeats 1000000 in
theorem write_6 (i : Ins) (w : World) :
    Calls Tryz.prog 54 #[.agg #[.int .u32 4261441663, .bool true, .bool true, .bool false, .int .i64 7, .bool false, .bool false], .agg #[.int .i64 i.op, .int .i64 i.rd, .int .i64 i.a, .int .i64 i.b, .int .i64 i.imm, .int .i64 i.csr, .bool i.aq, .bool i.rl]] w fun e w' => e = .returned (.int .u32 (bits .or .u32 (bits .or .u32 (bits .or .u32 0 (put5 i.rd 7)) (put5 i.a 15)) (putF 7 i.imm))) ∧ Below w.heap.size w w' := by
  have H7 : Hid (∀ n w, Calls Tryz.prog 85 #[.int .i64 n, .int .i64 7] w fun e w' => e = .returned (.int .u32 (put5 n 7)) ∧ w = w') := Lib.hid fun n w => put_any n 7 (by omega) w
  have H15 : Hid (∀ n w, Calls Tryz.prog 85 #[.int .i64 n, .int .i64 15] w fun e w' => e = .returned (.int .u32 (put5 n 15)) ∧ w = w') := Lib.hid fun n w => put_any n 15 (by omega) w
  have H20 : Hid (∀ n w, Calls Tryz.prog 85 #[.int .i64 n, .int .i64 20] w fun e w' => e = .returned (.int .u32 (put5 n 20)) ∧ w = w') := Lib.hid fun n w => put_any n 20 (by omega) w
  have H8 : Hid (∀ n w, Calls Tryz.prog 87 #[.int .i64 8, .int .i64 n] w fun e w' => e = .returned (.tuple #[.int .u32 (putF 8 n), .bool (fitB 8 n)]) ∧ Below w.heap.size w w') := Lib.hid fun n w => progPutF 8 (by omega) n w
  have HI : Hid (∀ n w, Calls Tryz.prog 87 #[.int .i64 7, .int .i64 n] w fun e w' => e = .returned (.tuple #[.int .u32 (putF 7 n), .bool (fitB 7 n)]) ∧ Below w.heap.size w w') := Lib.hid fun n w => progPutF 7 (by omega) n w
  go_enter Tryz.func54, Tryz.ntmps54
  go_wp2_with (first
    | (go_at_call 85; (with_reducible refine (H7.out _ _).mono ?_); rintro e w3 ⟨rfl, rfl⟩)
    | (go_at_call 85; (with_reducible refine (H15.out _ _).mono ?_); rintro e w3 ⟨rfl, rfl⟩)
    | (go_at_call 87; (with_reducible refine (HI.out _ _).mono ?_); rintro e ww2 ⟨rfl, hb2⟩; obtain ⟨HB2, hp, hq, hs⟩ := rows2 hb2; clear hb2 hp hq))
  go_ret
  exact ⟨rfl, HB2.out⟩
set_option maxHeartbeats 1000000 in
theorem write_7 (i : Ins) (w : World) :
    Calls Tryz.prog 54 #[.agg #[.int .u32 4261441663, .bool true, .bool true, .bool true, .int .i64 0, .bool false, .bool false], .agg #[.int .i64 i.op, .int .i64 i.rd, .int .i64 i.a, .int .i64 i.b, .int .i64 i.imm, .int .i64 i.csr, .bool i.aq, .bool i.rl]] w fun e w' => e = .returned (.int .u32 (bits .or .u32 (bits .or .u32 (bits .or .u32 (bits .or .u32 0 (put5 i.rd 7)) (put5 i.a 15)) (put5 i.b 20)) (putF 0 i.imm))) ∧ Below w.heap.size w w' := by
  have H7 : Hid (∀ n w, Calls Tryz.prog 85 #[.int .i64 n, .int .i64 7] w fun e w' => e = .returned (.int .u32 (put5 n 7)) ∧ w = w') := Lib.hid fun n w => put_any n 7 (by omega) w
  have H15 : Hid (∀ n w, Calls Tryz.prog 85 #[.int .i64 n, .int .i64 15] w fun e w' => e = .returned (.int .u32 (put5 n 15)) ∧ w = w') := Lib.hid fun n w => put_any n 15 (by omega) w
  have H20 : Hid (∀ n w, Calls Tryz.prog 85 #[.int .i64 n, .int .i64 20] w fun e w' => e = .returned (.int .u32 (put5 n 20)) ∧ w = w') := Lib.hid fun n w => put_any n 20 (by omega) w
  have H8 : Hid (∀ n w, Calls Tryz.prog 87 #[.int .i64 8, .int .i64 n] w fun e w' => e = .returned (.tuple #[.int .u32 (putF 8 n), .bool (fitB 8 n)]) ∧ Below w.heap.size w w') := Lib.hid fun n w => progPutF 8 (by omega) n w
  have HI : Hid (∀ n w, Calls Tryz.prog 87 #[.int .i64 0, .int .i64 n] w fun e w' => e = .returned (.tuple #[.int .u32 (putF 0 n), .bool (fitB 0 n)]) ∧ Below w.heap.size w w') := Lib.hid fun n w => progPutF 0 (by omega) n w
  go_enter Tryz.func54, Tryz.ntmps54
  go_wp2_with (first
    | (go_at_call 85; (with_reducible refine (H7.out _ _).mono ?_); rintro e w3 ⟨rfl, rfl⟩)
    | (go_at_call 85; (with_reducible refine (H15.out _ _).mono ?_); rintro e w3 ⟨rfl, rfl⟩)
    | (go_at_call 85; (with_reducible refine (H20.out _ _).mono ?_); rintro e w3 ⟨rfl, rfl⟩)
    | (go_at_call 87; (with_reducible refine (HI.out _ _).mono ?_); rintro e ww2 ⟨rfl, hb2⟩; obtain ⟨HB2, hp, hq, hs⟩ := rows2 hb2; clear hb2 hp hq))
  go_ret
  exact ⟨rfl, HB2.out⟩
set_option maxHeartbeats 1000000 in
theorem write_8 (i : Ins) (w : World) :
    Calls Tryz.prog 54 #[.agg #[.int .u32 4193284223, .bool true, .bool true, .bool false, .int .i64 0, .bool false, .bool true], .agg #[.int .i64 i.op, .int .i64 i.rd, .int .i64 i.a, .int .i64 i.b, .int .i64 i.imm, .int .i64 i.csr, .bool i.aq, .bool i.rl]] w fun e w' => e = .returned (.int .u32 (bits .or .u32 (bits .or .u32 (bits .or .u32 (bits .or .u32 0 (put5 i.rd 7)) (put5 i.a 15)) (bits .or .u32 (markZ i.aq 26) (markZ i.rl 25))) (putF 0 i.imm))) ∧ Below w.heap.size w w' := by
  have H7 : Hid (∀ n w, Calls Tryz.prog 85 #[.int .i64 n, .int .i64 7] w fun e w' => e = .returned (.int .u32 (put5 n 7)) ∧ w = w') := Lib.hid fun n w => put_any n 7 (by omega) w
  have H15 : Hid (∀ n w, Calls Tryz.prog 85 #[.int .i64 n, .int .i64 15] w fun e w' => e = .returned (.int .u32 (put5 n 15)) ∧ w = w') := Lib.hid fun n w => put_any n 15 (by omega) w
  have H20 : Hid (∀ n w, Calls Tryz.prog 85 #[.int .i64 n, .int .i64 20] w fun e w' => e = .returned (.int .u32 (put5 n 20)) ∧ w = w') := Lib.hid fun n w => put_any n 20 (by omega) w
  have H8 : Hid (∀ n w, Calls Tryz.prog 87 #[.int .i64 8, .int .i64 n] w fun e w' => e = .returned (.tuple #[.int .u32 (putF 8 n), .bool (fitB 8 n)]) ∧ Below w.heap.size w w') := Lib.hid fun n w => progPutF 8 (by omega) n w
  have HI : Hid (∀ n w, Calls Tryz.prog 87 #[.int .i64 0, .int .i64 n] w fun e w' => e = .returned (.tuple #[.int .u32 (putF 0 n), .bool (fitB 0 n)]) ∧ Below w.heap.size w w') := Lib.hid fun n w => progPutF 0 (by omega) n w
  go_enter Tryz.func54, Tryz.ntmps54
  go_wp2_with (first
    | (go_at_call 85; (with_reducible refine (H7.out _ _).mono ?_); rintro e w3 ⟨rfl, rfl⟩)
    | (go_at_call 85; (with_reducible refine (H15.out _ _).mono ?_); rintro e w3 ⟨rfl, rfl⟩))
  go_quiet ((go_at_call 86; exact Calls.quiet_of_same (mark_int _ _ (by omega) (by omega) _)))
  go_wp2_with (first
    | (go_at_call 87; (with_reducible refine (HI.out _ _).mono ?_); rintro e ww2 ⟨rfl, hb2⟩; have HB2 : Hid (Below w.heap.size w ww2) := Lib.hid ((belN (((Below.refl _ _).alloc (Nat.le_refl _) _).alloc (by rw [World.size_alloc]; omega) _) _).trans (hb2.mono (by show w.heap.size ≤ ((w.alloc _).alloc _).heap.size; rw [World.size_alloc, World.size_alloc]; omega))); clear hb2))
  go_ret
  exact ⟨rfl, HB2.out⟩
set_option maxHeartbeats 1000000 in
theorem write_9 (i : Ins) (w : World) :
    Calls Tryz.prog 54 #[.agg #[.int .u32 4160778367, .bool true, .bool true, .bool true, .int .i64 0, .bool false, .bool true], .agg #[.int .i64 i.op, .int .i64 i.rd, .int .i64 i.a, .int .i64 i.b, .int .i64 i.imm, .int .i64 i.csr, .bool i.aq, .bool i.rl]] w fun e w' => e = .returned (.int .u32 (bits .or .u32 (bits .or .u32 (bits .or .u32 (bits .or .u32 (bits .or .u32 0 (put5 i.rd 7)) (put5 i.a 15)) (put5 i.b 20)) (bits .or .u32 (markZ i.aq 26) (markZ i.rl 25))) (putF 0 i.imm))) ∧ Below w.heap.size w w' := by
  have H7 : Hid (∀ n w, Calls Tryz.prog 85 #[.int .i64 n, .int .i64 7] w fun e w' => e = .returned (.int .u32 (put5 n 7)) ∧ w = w') := Lib.hid fun n w => put_any n 7 (by omega) w
  have H15 : Hid (∀ n w, Calls Tryz.prog 85 #[.int .i64 n, .int .i64 15] w fun e w' => e = .returned (.int .u32 (put5 n 15)) ∧ w = w') := Lib.hid fun n w => put_any n 15 (by omega) w
  have H20 : Hid (∀ n w, Calls Tryz.prog 85 #[.int .i64 n, .int .i64 20] w fun e w' => e = .returned (.int .u32 (put5 n 20)) ∧ w = w') := Lib.hid fun n w => put_any n 20 (by omega) w
  have H8 : Hid (∀ n w, Calls Tryz.prog 87 #[.int .i64 8, .int .i64 n] w fun e w' => e = .returned (.tuple #[.int .u32 (putF 8 n), .bool (fitB 8 n)]) ∧ Below w.heap.size w w') := Lib.hid fun n w => progPutF 8 (by omega) n w
  have HI : Hid (∀ n w, Calls Tryz.prog 87 #[.int .i64 0, .int .i64 n] w fun e w' => e = .returned (.tuple #[.int .u32 (putF 0 n), .bool (fitB 0 n)]) ∧ Below w.heap.size w w') := Lib.hid fun n w => progPutF 0 (by omega) n w
  go_enter Tryz.func54, Tryz.ntmps54
  go_wp2_with (first
    | (go_at_call 85; (with_reducible refine (H7.out _ _).mono ?_); rintro e w3 ⟨rfl, rfl⟩)
    | (go_at_call 85; (with_reducible refine (H15.out _ _).mono ?_); rintro e w3 ⟨rfl, rfl⟩)
    | (go_at_call 85; (with_reducible refine (H20.out _ _).mono ?_); rintro e w3 ⟨rfl, rfl⟩))
  go_quiet ((go_at_call 86; exact Calls.quiet_of_same (mark_int _ _ (by omega) (by omega) _)))
  go_wp2_with (first
    | (go_at_call 87; (with_reducible refine (HI.out _ _).mono ?_); rintro e ww2 ⟨rfl, hb2⟩; have HB2 : Hid (Below w.heap.size w ww2) := Lib.hid ((belN (((Below.refl _ _).alloc (Nat.le_refl _) _).alloc (by rw [World.size_alloc]; omega) _) _).trans (hb2.mono (by show w.heap.size ≤ ((w.alloc _).alloc _).heap.size; rw [World.size_alloc, World.size_alloc]; omega))); clear hb2))
  go_ret
  exact ⟨rfl, HB2.out⟩
set_option maxHeartbeats 1000000 in
theorem write_10 (i : Ins) (w : World) :
    Calls Tryz.prog 54 #[.agg #[.int .u32 4294967295, .bool false, .bool false, .bool false, .int .i64 0, .bool false, .bool false], .agg #[.int .i64 i.op, .int .i64 i.rd, .int .i64 i.a, .int .i64 i.b, .int .i64 i.imm, .int .i64 i.csr, .bool i.aq, .bool i.rl]] w fun e w' => e = .returned (.int .u32 (bits .or .u32 (0) (putF 0 i.imm))) ∧ Below w.heap.size w w' := by
  have H7 : Hid (∀ n w, Calls Tryz.prog 85 #[.int .i64 n, .int .i64 7] w fun e w' => e = .returned (.int .u32 (put5 n 7)) ∧ w = w') := Lib.hid fun n w => put_any n 7 (by omega) w
  have H15 : Hid (∀ n w, Calls Tryz.prog 85 #[.int .i64 n, .int .i64 15] w fun e w' => e = .returned (.int .u32 (put5 n 15)) ∧ w = w') := Lib.hid fun n w => put_any n 15 (by omega) w
  have H20 : Hid (∀ n w, Calls Tryz.prog 85 #[.int .i64 n, .int .i64 20] w fun e w' => e = .returned (.int .u32 (put5 n 20)) ∧ w = w') := Lib.hid fun n w => put_any n 20 (by omega) w
  have H8 : Hid (∀ n w, Calls Tryz.prog 87 #[.int .i64 8, .int .i64 n] w fun e w' => e = .returned (.tuple #[.int .u32 (putF 8 n), .bool (fitB 8 n)]) ∧ Below w.heap.size w w') := Lib.hid fun n w => progPutF 8 (by omega) n w
  have HI : Hid (∀ n w, Calls Tryz.prog 87 #[.int .i64 0, .int .i64 n] w fun e w' => e = .returned (.tuple #[.int .u32 (putF 0 n), .bool (fitB 0 n)]) ∧ Below w.heap.size w w') := Lib.hid fun n w => progPutF 0 (by omega) n w
  go_enter Tryz.func54, Tryz.ntmps54
  go_wp2_with (first
    | (go_at_call 87; (with_reducible refine (HI.out _ _).mono ?_); rintro e ww2 ⟨rfl, hb2⟩; obtain ⟨HB2, hp, hq, hs⟩ := rows2 hb2; clear hb2 hp hq))
  go_ret
  exact ⟨rfl, HB2.out⟩
set_option maxHeartbeats 1000000 in
theorem write_11 (i : Ins) (w : World) :
    Calls Tryz.prog 54 #[.agg #[.int .u32 4261445631, .bool false, .bool true, .bool true, .int .i64 0, .bool false, .bool false], .agg #[.int .i64 i.op, .int .i64 i.rd, .int .i64 i.a, .int .i64 i.b, .int .i64 i.imm, .int .i64 i.csr, .bool i.aq, .bool i.rl]] w fun e w' => e = .returned (.int .u32 (bits .or .u32 (bits .or .u32 (bits .or .u32 (0) (put5 i.a 15)) (put5 i.b 20)) (putF 0 i.imm))) ∧ Below w.heap.size w w' := by
  have H7 : Hid (∀ n w, Calls Tryz.prog 85 #[.int .i64 n, .int .i64 7] w fun e w' => e = .returned (.int .u32 (put5 n 7)) ∧ w = w') := Lib.hid fun n w => put_any n 7 (by omega) w
  have H15 : Hid (∀ n w, Calls Tryz.prog 85 #[.int .i64 n, .int .i64 15] w fun e w' => e = .returned (.int .u32 (put5 n 15)) ∧ w = w') := Lib.hid fun n w => put_any n 15 (by omega) w
  have H20 : Hid (∀ n w, Calls Tryz.prog 85 #[.int .i64 n, .int .i64 20] w fun e w' => e = .returned (.int .u32 (put5 n 20)) ∧ w = w') := Lib.hid fun n w => put_any n 20 (by omega) w
  have H8 : Hid (∀ n w, Calls Tryz.prog 87 #[.int .i64 8, .int .i64 n] w fun e w' => e = .returned (.tuple #[.int .u32 (putF 8 n), .bool (fitB 8 n)]) ∧ Below w.heap.size w w') := Lib.hid fun n w => progPutF 8 (by omega) n w
  have HI : Hid (∀ n w, Calls Tryz.prog 87 #[.int .i64 0, .int .i64 n] w fun e w' => e = .returned (.tuple #[.int .u32 (putF 0 n), .bool (fitB 0 n)]) ∧ Below w.heap.size w w') := Lib.hid fun n w => progPutF 0 (by omega) n w
  go_enter Tryz.func54, Tryz.ntmps54
  go_wp2_with (first
    | (go_at_call 85; (with_reducible refine (H15.out _ _).mono ?_); rintro e w3 ⟨rfl, rfl⟩)
    | (go_at_call 85; (with_reducible refine (H20.out _ _).mono ?_); rintro e w3 ⟨rfl, rfl⟩)
    | (go_at_call 87; (with_reducible refine (HI.out _ _).mono ?_); rintro e ww2 ⟨rfl, hb2⟩; obtain ⟨HB2, hp, hq, hs⟩ := rows2 hb2; clear hb2 hp hq))
  go_ret
  exact ⟨rfl, HB2.out⟩
set_option maxHeartbeats 1000000 in
theorem write_12 (i : Ins) (w : World) :
    Calls Tryz.prog 54 #[.agg #[.int .u32 28799, .bool true, .bool true, .bool false, .int .i64 0, .bool true, .bool false], .agg #[.int .i64 i.op, .int .i64 i.rd, .int .i64 i.a, .int .i64 i.b, .int .i64 i.imm, .int .i64 i.csr, .bool i.aq, .bool i.rl]] w fun e w' => e = .returned (.int .u32 (bits .or .u32 (bits .or .u32 (bits .or .u32 (bits .or .u32 0 (put5 i.rd 7)) (put5 i.a 15)) (putF 8 i.csr)) (putF 0 i.imm))) ∧ Below w.heap.size w w' := by
  have H7 : Hid (∀ n w, Calls Tryz.prog 85 #[.int .i64 n, .int .i64 7] w fun e w' => e = .returned (.int .u32 (put5 n 7)) ∧ w = w') := Lib.hid fun n w => put_any n 7 (by omega) w
  have H15 : Hid (∀ n w, Calls Tryz.prog 85 #[.int .i64 n, .int .i64 15] w fun e w' => e = .returned (.int .u32 (put5 n 15)) ∧ w = w') := Lib.hid fun n w => put_any n 15 (by omega) w
  have H20 : Hid (∀ n w, Calls Tryz.prog 85 #[.int .i64 n, .int .i64 20] w fun e w' => e = .returned (.int .u32 (put5 n 20)) ∧ w = w') := Lib.hid fun n w => put_any n 20 (by omega) w
  have H8 : Hid (∀ n w, Calls Tryz.prog 87 #[.int .i64 8, .int .i64 n] w fun e w' => e = .returned (.tuple #[.int .u32 (putF 8 n), .bool (fitB 8 n)]) ∧ Below w.heap.size w w') := Lib.hid fun n w => progPutF 8 (by omega) n w
  have HI : Hid (∀ n w, Calls Tryz.prog 87 #[.int .i64 0, .int .i64 n] w fun e w' => e = .returned (.tuple #[.int .u32 (putF 0 n), .bool (fitB 0 n)]) ∧ Below w.heap.size w w') := Lib.hid fun n w => progPutF 0 (by omega) n w
  go_enter Tryz.func54, Tryz.ntmps54
  go_wp2_with (first
    | (go_at_call 85; (with_reducible refine (H7.out _ _).mono ?_); rintro e w3 ⟨rfl, rfl⟩)
    | (go_at_call 85; (with_reducible refine (H15.out _ _).mono ?_); rintro e w3 ⟨rfl, rfl⟩)
    | (go_at_call 87; (with_reducible refine (H8.out _ _).mono ?_); rintro e ww1 ⟨rfl, hb1⟩; obtain ⟨HB1, hp, hq, hs⟩ := rows2 hb1; have p4 : ww1.cell? ⟨w.heap.size, 4, none⟩ = some (.int .i64 0) := (by rw [hp]; rfl); have q4 : ww1.cell? ⟨w.heap.size + 1, 4, none⟩ = some (.int .i64 i.imm) := (by rw [hq]; rfl); clear hb1 hp hq)
    | (go_at_call 87; (with_reducible refine (HI.out _ _).mono ?_); rintro e ww2 ⟨rfl, hb2⟩; have HB2 : Hid (Below w.heap.size w ww2) := Lib.hid (HB1.out.trans (hb2.mono (by omega))); clear hb2))
  go_ret
  exact ⟨rfl, HB2.out⟩
set_option maxHeartbeats 1000000 in
theorem write_13 (i : Ins) (w : World) :
    Calls Tryz.prog 54 #[.agg #[.int .u32 28799, .bool true, .bool false, .bool false, .int .i64 9, .bool true, .bool false], .agg #[.int .i64 i.op, .int .i64 i.rd, .int .i64 i.a, .int .i64 i.b, .int .i64 i.imm, .int .i64 i.csr, .bool i.aq, .bool i.rl]] w fun e w' => e = .returned (.int .u32 (bits .or .u32 (bits .or .u32 (bits .or .u32 0 (put5 i.rd 7)) (putF 8 i.csr)) (putF 9 i.imm))) ∧ Below w.heap.size w w' := by
  have H7 : Hid (∀ n w, Calls Tryz.prog 85 #[.int .i64 n, .int .i64 7] w fun e w' => e = .returned (.int .u32 (put5 n 7)) ∧ w = w') := Lib.hid fun n w => put_any n 7 (by omega) w
  have H15 : Hid (∀ n w, Calls Tryz.prog 85 #[.int .i64 n, .int .i64 15] w fun e w' => e = .returned (.int .u32 (put5 n 15)) ∧ w = w') := Lib.hid fun n w => put_any n 15 (by omega) w
  have H20 : Hid (∀ n w, Calls Tryz.prog 85 #[.int .i64 n, .int .i64 20] w fun e w' => e = .returned (.int .u32 (put5 n 20)) ∧ w = w') := Lib.hid fun n w => put_any n 20 (by omega) w
  have H8 : Hid (∀ n w, Calls Tryz.prog 87 #[.int .i64 8, .int .i64 n] w fun e w' => e = .returned (.tuple #[.int .u32 (putF 8 n), .bool (fitB 8 n)]) ∧ Below w.heap.size w w') := Lib.hid fun n w => progPutF 8 (by omega) n w
  have HI : Hid (∀ n w, Calls Tryz.prog 87 #[.int .i64 9, .int .i64 n] w fun e w' => e = .returned (.tuple #[.int .u32 (putF 9 n), .bool (fitB 9 n)]) ∧ Below w.heap.size w w') := Lib.hid fun n w => progPutF 9 (by omega) n w
  go_enter Tryz.func54, Tryz.ntmps54
  go_wp2_with (first
    | (go_at_call 85; (with_reducible refine (H7.out _ _).mono ?_); rintro e w3 ⟨rfl, rfl⟩)
    | (go_at_call 87; (with_reducible refine (H8.out _ _).mono ?_); rintro e ww1 ⟨rfl, hb1⟩; obtain ⟨HB1, hp, hq, hs⟩ := rows2 hb1; have p4 : ww1.cell? ⟨w.heap.size, 4, none⟩ = some (.int .i64 9) := (by rw [hp]; rfl); have q4 : ww1.cell? ⟨w.heap.size + 1, 4, none⟩ = some (.int .i64 i.imm) := (by rw [hq]; rfl); clear hb1 hp hq)
    | (go_at_call 87; (with_reducible refine (HI.out _ _).mono ?_); rintro e ww2 ⟨rfl, hb2⟩; have HB2 : Hid (Below w.heap.size w ww2) := Lib.hid (HB1.out.trans (hb2.mono (by omega))); clear hb2))
  go_ret
  exact ⟨rfl, HB2.out⟩
set_option maxHeartbeats 1000000 in
theorem write_14 (i : Ins) (w : World) :
    Calls Tryz.prog 54 #[.agg #[.int .u32 4293947519, .bool true, .bool true, .bool false, .int .i64 0, .bool false, .bool false], .agg #[.int .i64 i.op, .int .i64 i.rd, .int .i64 i.a, .int .i64 i.b, .int .i64 i.imm, .int .i64 i.csr, .bool i.aq, .bool i.rl]] w fun e w' => e = .returned (.int .u32 (bits .or .u32 (bits .or .u32 (bits .or .u32 0 (put5 i.rd 7)) (put5 i.a 15)) (putF 0 i.imm))) ∧ Below w.heap.size w w' := by
  have H7 : Hid (∀ n w, Calls Tryz.prog 85 #[.int .i64 n, .int .i64 7] w fun e w' => e = .returned (.int .u32 (put5 n 7)) ∧ w = w') := Lib.hid fun n w => put_any n 7 (by omega) w
  have H15 : Hid (∀ n w, Calls Tryz.prog 85 #[.int .i64 n, .int .i64 15] w fun e w' => e = .returned (.int .u32 (put5 n 15)) ∧ w = w') := Lib.hid fun n w => put_any n 15 (by omega) w
  have H20 : Hid (∀ n w, Calls Tryz.prog 85 #[.int .i64 n, .int .i64 20] w fun e w' => e = .returned (.int .u32 (put5 n 20)) ∧ w = w') := Lib.hid fun n w => put_any n 20 (by omega) w
  have H8 : Hid (∀ n w, Calls Tryz.prog 87 #[.int .i64 8, .int .i64 n] w fun e w' => e = .returned (.tuple #[.int .u32 (putF 8 n), .bool (fitB 8 n)]) ∧ Below w.heap.size w w') := Lib.hid fun n w => progPutF 8 (by omega) n w
  have HI : Hid (∀ n w, Calls Tryz.prog 87 #[.int .i64 0, .int .i64 n] w fun e w' => e = .returned (.tuple #[.int .u32 (putF 0 n), .bool (fitB 0 n)]) ∧ Below w.heap.size w w') := Lib.hid fun n w => progPutF 0 (by omega) n w
  go_enter Tryz.func54, Tryz.ntmps54
  go_wp2_with (first
    | (go_at_call 85; (with_reducible refine (H7.out _ _).mono ?_); rintro e w3 ⟨rfl, rfl⟩)
    | (go_at_call 85; (with_reducible refine (H15.out _ _).mono ?_); rintro e w3 ⟨rfl, rfl⟩)
    | (go_at_call 87; (with_reducible refine (HI.out _ _).mono ?_); rintro e ww2 ⟨rfl, hb2⟩; obtain ⟨HB2, hp, hq, hs⟩ := rows2 hb2; clear hb2 hp hq))
  go_ret
  exact ⟨rfl, HB2.out⟩
end Go.Proofs.YtakdhdaoklcidaaGreatDoor

namespace Go.Proofs.YtakdhdaoklcidaaGreatDoor
open Go.RowKit
set_option linter.unusedVariables false
set_option maxRecDepth 100000
theorem says_is_0 (op x : Int) : says (frm 0) op x = ⟨op, fldZ x 11 7, 0, 0, (formL 4).number x, 0, false, false⟩ := by simp [says, frm]
theorem says_is_1 (op x : Int) : says (frm 1) op x = ⟨op, fldZ x 11 7, 0, 0, (formL 5).number x, 0, false, false⟩ := by simp [says, frm]
theorem says_is_2 (op x : Int) : says (frm 2) op x = ⟨op, fldZ x 11 7, fldZ x 19 15, 0, (formL 1).number x, 0, false, false⟩ := by simp [says, frm]
theorem says_is_3 (op x : Int) : says (frm 3) op x = ⟨op, 0, fldZ x 19 15, fldZ x 24 20, (formL 3).number x, 0, false, false⟩ := by simp [says, frm]
theorem says_is_4 (op x : Int) : says (frm 4) op x = ⟨op, 0, fldZ x 19 15, fldZ x 24 20, (formL 2).number x, 0, false, false⟩ := by simp [says, frm]
theorem says_is_5 (op x : Int) : says (frm 5) op x = ⟨op, fldZ x 11 7, fldZ x 19 15, 0, (formL 6).number x, 0, false, false⟩ := by simp [says, frm]
theorem says_is_6 (op x : Int) : says (frm 6) op x = ⟨op, fldZ x 11 7, fldZ x 19 15, 0, (formL 7).number x, 0, false, false⟩ := by simp [says, frm]
theorem says_is_7 (op x : Int) : says (frm 7) op x = ⟨op, fldZ x 11 7, fldZ x 19 15, fldZ x 24 20, 0, 0, false, false⟩ := by simp [says, frm, number0]
theorem says_is_8 (op x : Int) : says (frm 8) op x = ⟨op, fldZ x 11 7, fldZ x 19 15, 0, 0, 0, fldZ x 26 26 == 1, fldZ x 25 25 == 1⟩ := by simp [says, frm, number0]
theorem says_is_9 (op x : Int) : says (frm 9) op x = ⟨op, fldZ x 11 7, fldZ x 19 15, fldZ x 24 20, 0, 0, fldZ x 26 26 == 1, fldZ x 25 25 == 1⟩ := by simp [says, frm, number0]
theorem says_is_10 (op x : Int) : says (frm 10) op x = ⟨op, 0, 0, 0, 0, 0, false, false⟩ := by simp [says, frm, number0]
theorem says_is_11 (op x : Int) : says (frm 11) op x = ⟨op, 0, fldZ x 19 15, fldZ x 24 20, 0, 0, false, false⟩ := by simp [says, frm, number0]
theorem says_is_12 (op x : Int) : says (frm 12) op x = ⟨op, fldZ x 11 7, fldZ x 19 15, 0, 0, fldZ x 31 20, false, false⟩ := by simp [says, frm, number0]
theorem says_is_13 (op x : Int) : says (frm 13) op x = ⟨op, fldZ x 11 7, 0, 0, (formL 9).number x, fldZ x 31 20, false, false⟩ := by simp [says, frm]
theorem says_is_14 (op x : Int) : says (frm 14) op x = ⟨op, fldZ x 11 7, fldZ x 19 15, 0, 0, 0, false, false⟩ := by simp [says, frm, number0]
theorem read_any (f : Nat) (hf : f < 15) (op x : Int) (w : World) :
    Calls Tryz.prog 55 #[.agg #[.int .u32 (frm f).mask, .bool (frm f).rd, .bool (frm f).a, .bool (frm f).b, .int .i64 (frm f).imm, .bool (frm f).csr, .bool (frm f).ord], .int .i64 op, .int .u32 x] w fun e w' => e = .returned (.agg #[.int .i64 (says (frm f) op x).op, .int .i64 (says (frm f) op x).rd, .int .i64 (says (frm f) op x).a, .int .i64 (says (frm f) op x).b, .int .i64 (says (frm f) op x).imm, .int .i64 (says (frm f) op x).csr, .bool (says (frm f) op x).aq, .bool (says (frm f) op x).rl]) ∧ Below w.heap.size w w' :=
  match f, hf with
  | 0, _ => by rw [says_is_0]; exact read_0 op x w
  | 1, _ => by rw [says_is_1]; exact read_1 op x w
  | 2, _ => by rw [says_is_2]; exact read_2 op x w
  | 3, _ => by rw [says_is_3]; exact read_3 op x w
  | 4, _ => by rw [says_is_4]; exact read_4 op x w
  | 5, _ => by rw [says_is_5]; exact read_5 op x w
  | 6, _ => by rw [says_is_6]; exact read_6 op x w
  | 7, _ => by rw [says_is_7]; exact read_7 op x w
  | 8, _ => by rw [says_is_8]; exact read_8 op x w
  | 9, _ => by rw [says_is_9]; exact read_9 op x w
  | 10, _ => by rw [says_is_10]; exact read_10 op x w
  | 11, _ => by rw [says_is_11]; exact read_11 op x w
  | 12, _ => by rw [says_is_12]; exact read_12 op x w
  | 13, _ => by rw [says_is_13]; exact read_13 op x w
  | 14, _ => by rw [says_is_14]; exact read_14 op x w
  | f + 15, h => absurd h (by omega)
theorem wF_is_0 (i : Ins) : wF (frm 0) i = bits .or .u32 (bits .or .u32 0 (put5 i.rd 7)) (putF 4 i.imm) := by simp [wF, w5, w4, w3, w2, w1, frm]
theorem wF_is_1 (i : Ins) : wF (frm 1) i = bits .or .u32 (bits .or .u32 0 (put5 i.rd 7)) (putF 5 i.imm) := by simp [wF, w5, w4, w3, w2, w1, frm]
theorem wF_is_2 (i : Ins) : wF (frm 2) i = bits .or .u32 (bits .or .u32 (bits .or .u32 0 (put5 i.rd 7)) (put5 i.a 15)) (putF 1 i.imm) := by simp [wF, w5, w4, w3, w2, w1, frm]
theorem wF_is_3 (i : Ins) : wF (frm 3) i = bits .or .u32 (bits .or .u32 (bits .or .u32 (0) (put5 i.a 15)) (put5 i.b 20)) (putF 3 i.imm) := by simp [wF, w5, w4, w3, w2, w1, frm]
theorem wF_is_4 (i : Ins) : wF (frm 4) i = bits .or .u32 (bits .or .u32 (bits .or .u32 (0) (put5 i.a 15)) (put5 i.b 20)) (putF 2 i.imm) := by simp [wF, w5, w4, w3, w2, w1, frm]
theorem wF_is_5 (i : Ins) : wF (frm 5) i = bits .or .u32 (bits .or .u32 (bits .or .u32 0 (put5 i.rd 7)) (put5 i.a 15)) (putF 6 i.imm) := by simp [wF, w5, w4, w3, w2, w1, frm]
theorem wF_is_6 (i : Ins) : wF (frm 6) i = bits .or .u32 (bits .or .u32 (bits .or .u32 0 (put5 i.rd 7)) (put5 i.a 15)) (putF 7 i.imm) := by simp [wF, w5, w4, w3, w2, w1, frm]
theorem wF_is_7 (i : Ins) : wF (frm 7) i = bits .or .u32 (bits .or .u32 (bits .or .u32 (bits .or .u32 0 (put5 i.rd 7)) (put5 i.a 15)) (put5 i.b 20)) (putF 0 i.imm) := by simp [wF, w5, w4, w3, w2, w1, frm]
theorem wF_is_8 (i : Ins) : wF (frm 8) i = bits .or .u32 (bits .or .u32 (bits .or .u32 (bits .or .u32 0 (put5 i.rd 7)) (put5 i.a 15)) (bits .or .u32 (markZ i.aq 26) (markZ i.rl 25))) (putF 0 i.imm) := by simp [wF, w5, w4, w3, w2, w1, frm]
theorem wF_is_9 (i : Ins) : wF (frm 9) i = bits .or .u32 (bits .or .u32 (bits .or .u32 (bits .or .u32 (bits .or .u32 0 (put5 i.rd 7)) (put5 i.a 15)) (put5 i.b 20)) (bits .or .u32 (markZ i.aq 26) (markZ i.rl 25))) (putF 0 i.imm) := by simp [wF, w5, w4, w3, w2, w1, frm]
theorem wF_is_10 (i : Ins) : wF (frm 10) i = bits .or .u32 (0) (putF 0 i.imm) := by simp [wF, w5, w4, w3, w2, w1, frm]
theorem wF_is_11 (i : Ins) : wF (frm 11) i = bits .or .u32 (bits .or .u32 (bits .or .u32 (0) (put5 i.a 15)) (put5 i.b 20)) (putF 0 i.imm) := by simp [wF, w5, w4, w3, w2, w1, frm]
theorem wF_is_12 (i : Ins) : wF (frm 12) i = bits .or .u32 (bits .or .u32 (bits .or .u32 (bits .or .u32 0 (put5 i.rd 7)) (put5 i.a 15)) (putF 8 i.csr)) (putF 0 i.imm) := by simp [wF, w5, w4, w3, w2, w1, frm]
theorem wF_is_13 (i : Ins) : wF (frm 13) i = bits .or .u32 (bits .or .u32 (bits .or .u32 0 (put5 i.rd 7)) (putF 8 i.csr)) (putF 9 i.imm) := by simp [wF, w5, w4, w3, w2, w1, frm]
theorem wF_is_14 (i : Ins) : wF (frm 14) i = bits .or .u32 (bits .or .u32 (bits .or .u32 0 (put5 i.rd 7)) (put5 i.a 15)) (putF 0 i.imm) := by simp [wF, w5, w4, w3, w2, w1, frm]
theorem write_any (f : Nat) (hf : f < 15) (i : Ins) (w : World) :
    Calls Tryz.prog 54 #[.agg #[.int .u32 (frm f).mask, .bool (frm f).rd, .bool (frm f).a, .bool (frm f).b, .int .i64 (frm f).imm, .bool (frm f).csr, .bool (frm f).ord], .agg #[.int .i64 i.op, .int .i64 i.rd, .int .i64 i.a, .int .i64 i.b, .int .i64 i.imm, .int .i64 i.csr, .bool i.aq, .bool i.rl]] w fun e w' => e = .returned (.int .u32 (wF (frm f) i)) ∧ Below w.heap.size w w' :=
  match f, hf with
  | 0, _ => by rw [wF_is_0]; exact write_0 i w
  | 1, _ => by rw [wF_is_1]; exact write_1 i w
  | 2, _ => by rw [wF_is_2]; exact write_2 i w
  | 3, _ => by rw [wF_is_3]; exact write_3 i w
  | 4, _ => by rw [wF_is_4]; exact write_4 i w
  | 5, _ => by rw [wF_is_5]; exact write_5 i w
  | 6, _ => by rw [wF_is_6]; exact write_6 i w
  | 7, _ => by rw [wF_is_7]; exact write_7 i w
  | 8, _ => by rw [wF_is_8]; exact write_8 i w
  | 9, _ => by rw [wF_is_9]; exact write_9 i w
  | 10, _ => by rw [wF_is_10]; exact write_10 i w
  | 11, _ => by rw [wF_is_11]; exact write_11 i w
  | 12, _ => by rw [wF_is_12]; exact write_12 i w
  | 13, _ => by rw [wF_is_13]; exact write_13 i w
  | 14, _ => by rw [wF_is_14]; exact write_14 i w
  | f + 15, h => absurd h (by omega)
end Go.Proofs.YtakdhdaoklcidaaGreatDoor

namespace Go.Proofs.YtakdhdaoklcidaaGreatDoor
open Go.RowKit
set_option linter.unusedVariables false
set_option maxRecDepth 100000
structure Zr (w wr : World) : Prop where
  bel : Below w.heap.size w wr
  row : wr.heap[w.heap.size]? = some (.cells #[.int .i64 0, .int .i64 0, .int .i64 0, .int .i64 0, .int .i64 0, .int .i64 0, .bool false, .bool false] 23 (0, 0))
theorem Zr.lt {w wr : World} (h : Zr w wr) : w.heap.size < wr.heap.size := (Array.getElem?_eq_some_iff.1 h.row).1
theorem Zr.go {w wr w2 : World} (h : Zr w wr) (hb : Below wr.heap.size wr w2) : Zr w w2 := ⟨h.bel.trans (hb.mono (Nat.le_of_lt h.lt)), (hb.block _ h.lt).trans h.row⟩
theorem Zr.alloc {w wr : World} (h : Zr w wr) (o : Obj) : Zr w (wr.alloc o) := h.go ((Below.refl _ _).alloc (Nat.le_refl _) _)
theorem Zr.tab {w wr : World} (h : Zr w wr) (ht : Tab w) : Tab wr := ht.below h.bel
theorem forms_at {w : World} (ht : Tab w) {f : Nat} (hf : f < 15) : w.cell? ⟨0, f * 7, none⟩ = some (.int .u32 (frm f).mask) ∧ w.cell? ⟨0, f * 7 + 1, none⟩ = some (.bool (frm f).rd) ∧ w.cell? ⟨0, f * 7 + 2, none⟩ = some (.bool (frm f).a) ∧ w.cell? ⟨0, f * 7 + 3, none⟩ = some (.bool (frm f).b) ∧ w.cell? ⟨0, f * 7 + 4, none⟩ = some (.int .i64 (frm f).imm) ∧ w.cell? ⟨0, f * 7 + 5, none⟩ = some (.bool (frm f).csr) ∧ w.cell? ⟨0, f * 7 + 6, none⟩ = some (.bool (frm f).ord) := by
  obtain ⟨a, b, c, d, e, g, h⟩ := forms_row f hf
  exact ⟨ht.cell a, ht.cell b, ht.cell c, ht.cell d, ht.cell e, ht.cell g, ht.cell h⟩
end Go.Proofs.YtakdhdaoklcidaaGreatDoor

namespace Go.Proofs.YtakdhdaoklcidaaGreatDoor
open Go.RowKit
set_option linter.unusedVariables false
set_option maxRecDepth 100000
theorem name_yes (k : Nat) (h1 : 1 ≤ k) (h2 : k ≤ 113) (w : World) :
    Calls Tryz.prog 25 #[.int .i64 k] w fun e w' => e = .returned (.string (nameT k)) ∧ Below w.heap.size w w' := by
  have HF := Lib.hid (dfind_any k h1 h2)
  generalize nameT k = nm at *
  generalize matT k = mt at *
  generalize frmT k = f at *
  clear h1 h2
  go_enter Tryz.func25, Tryz.ntmps25
  go_wp2_with (go_at_call 53; (with_reducible refine (HF.out _).mono ?_); rintro e1 w1 ⟨rfl, hb1⟩)
  go_ret
  exact ⟨rfl, hb1.alloc hb1.size _⟩
def sameT (k : Nat) (s : ByteArray) : Bool := (nameT k).toList == s.toList
set_option maxHeartbeats 1000000 in
theorem op_yes (k : Nat) (h1 : 1 ≤ k) (h2 : k ≤ 113) (s : ByteArray) (hk : sameT k s = true) (hno : ∀ j, 1 ≤ j → j < k → sameT j s = false) (w : World) :
    Calls Tryz.prog 37 #[.string s] w fun e w' => e = .returned (.int .i64 k) ∧ Below w.heap.size w w' := by
  have HK := Lib.hid hk
  have HNO := Lib.hid hno
  clear hk hno
  go_enter Tryz.func37, Tryz.ntmps37
  go_wp2
  go_loopw [3] (fun i wr => ∃ j : Nat, 1 ≤ j ∧ j ≤ k ∧ i = .int .i64 j ∧ Below w.heap.size w wr) (fun i _ => (k + 1 - intOf i).toNat)
  case atStart => exact ⟨1, by omega, h1, rfl, Below.refl _ _⟩
  case round =>
    obtain ⟨j, hj1, hj2, rfl, hz⟩ := hrel
    have HZ := Lib.hid hz
    clear hz
    have hj3 : (j : Int) ≤ 113 := by omega
    have HF := Lib.hid fun w => name_yes j hj1 (by omega) w
    by_cases e : j < k
    · have hq : ((nameT j).toList == s.toList) = false := HNO.out j hj1 e
      generalize nameT j = nm at *
      clear hj1
      go_wp2_with (go_at_call 25; (with_reducible refine (HF.out _).mono ?_); rintro e1 w1 ⟨rfl, hb1⟩; have HZ1 := Lib.hid (HZ.out.trans (hb1.mono HZ.out.size)); clear hb1)
      go_roundw
      case rel => exact ⟨j + 1, by omega, by omega, by go_num, HZ1.out⟩
      case measure => simp [intOf]; omega
    · obtain rfl : j = k := by omega
      have hq : ((nameT j).toList == s.toList) = true := HK.out
      generalize nameT j = nm at *
      clear hj1
      go_wp2_with (go_at_call 25; (with_reducible refine (HF.out _).mono ?_); rintro e1 w1 ⟨rfl, hb1⟩; have HZ1 := Lib.hid (HZ.out.trans (hb1.mono HZ.out.size)); clear hb1)
      go_ret
      exact ⟨rfl, HZ1.out⟩
set_option maxHeartbeats 1000000 in
theorem op_no (s : ByteArray) (hno : ∀ j, 1 ≤ j → j ≤ 113 → sameT j s = false) (w : World) :
    Calls Tryz.prog 37 #[.string s] w fun e w' => e = .returned (.int .i64 0) ∧ Below w.heap.size w w' := by
  have HNO := Lib.hid hno
  clear hno
  go_enter Tryz.func37, Tryz.ntmps37
  go_wp2
  go_loopw [3] (fun i wr => ∃ j : Nat, 1 ≤ j ∧ j ≤ 114 ∧ i = .int .i64 j ∧ Below w.heap.size w wr) (fun i _ => (115 - intOf i).toNat)
  case atStart => exact ⟨1, by omega, by omega, rfl, Below.refl _ _⟩
  case round =>
    obtain ⟨j, hj1, hj2, rfl, hz⟩ := hrel
    have HZ := Lib.hid hz
    clear hz
    by_cases e : j ≤ 113
    · have hj3 : (j : Int) ≤ 113 := by omega
      have HF := Lib.hid fun w => name_yes j hj1 (by omega) w
      have hq : ((nameT j).toList == s.toList) = false := HNO.out j hj1 e
      generalize nameT j = nm at *
      clear hj1
      go_wp2_with (go_at_call 25; (with_reducible refine (HF.out _).mono ?_); rintro e1 w1 ⟨rfl, hb1⟩; have HZ1 := Lib.hid (HZ.out.trans (hb1.mono HZ.out.size)); clear hb1)
      go_roundw
      case rel => exact ⟨j + 1, by omega, by omega, by go_num, HZ1.out⟩
      case measure => simp [intOf]; omega
    · obtain rfl : j = 114 := by omega
      go_wp2
      go_ret
      exact ⟨rfl, HZ.out⟩
theorem eq_ins (u v : Ins) (w : World) : (Op.equalIn 10000 23 (.agg #[.int .i64 u.op, .int .i64 u.rd, .int .i64 u.a, .int .i64 u.b, .int .i64 u.imm, .int .i64 u.csr, .bool u.aq, .bool u.rl]) (.agg #[.int .i64 v.op, .int .i64 v.rd, .int .i64 v.a, .int .i64 v.b, .int .i64 v.imm, .int .i64 v.csr, .bool v.aq, .bool v.rl])).run Tryz.prog w = .ok (eqI u v) w := by
  simp [go_sem, eqI]
  repeat' split
  all_goals simp_all
theorem neq_ins (u v : Ins) (w : World) : (binOp .neq 23 (.agg #[.int .i64 u.op, .int .i64 u.rd, .int .i64 u.a, .int .i64 u.b, .int .i64 u.imm, .int .i64 u.csr, .bool u.aq, .bool u.rl]) (.agg #[.int .i64 v.op, .int .i64 v.rd, .int .i64 v.a, .int .i64 v.b, .int .i64 v.imm, .int .i64 v.csr, .bool v.aq, .bool v.rl])).run Tryz.prog w = .ok (.bool (!eqI u v)) w := by
  rw [run_neq_struct, eq_ins]; rfl
set_option maxHeartbeats 1000000 in
theorem encode_none (i : Ins) (h : ¬ (1 ≤ i.op ∧ i.op ≤ 113)) (w : World) :
    Calls Tryz.prog 21 #[.agg #[.int .i64 i.op, .int .i64 i.rd, .int .i64 i.a, .int .i64 i.b, .int .i64 i.imm, .int .i64 i.csr, .bool i.aq, .bool i.rl]] w fun e w' => e = .returned (.tuple #[.int .u32 0, .int .i64 80]) ∧ Below w.heap.size w w' := by
  have HF := Lib.hid (dfind_none i.op h)
  clear h
  go_enter Tryz.func21, Tryz.ntmps21
  go_wp2_with (go_at_call 53; (with_reducible refine (HF.out _).mono ?_); rintro e1 w1 ⟨rfl, hb1⟩; have HB := Lib.hid (((Below.refl _ _).alloc (Nat.le_refl _) _).trans (hb1.mono (by simp))); clear hb1)
  go_ret2
  exact ⟨rfl, HB.out.alloc HB.out.size _⟩
end Go.Proofs.YtakdhdaoklcidaaGreatDoor

namespace Go.Proofs.YtakdhdaoklcidaaGreatDoor
open Go.RowKit
set_option linter.unusedVariables false
set_option maxRecDepth 100000
set_option maxHeartbeats 4000000 in
theorem encode_true (k : Nat) (h1 : 1 ≤ k) (h2 : k ≤ 113) (i : Ins) (hk : i.op = k) (W : Int) (hW : wordI (matT k) (fT k) i = W) (hq : eqI (says (fT k) i.op W) i = true) (w : World) (ht : Tab w) :
    Calls Tryz.prog 21 #[.agg #[.int .i64 i.op, .int .i64 i.rd, .int .i64 i.a, .int .i64 i.b, .int .i64 i.imm, .int .i64 i.csr, .bool i.aq, .bool i.rl]] w fun e w' => e = .returned (.tuple #[.int .u32 W, .int .i64 0]) ∧ Below w.heap.size w w' := by
  have HT := Lib.hid ht
  have HF : Hid (∀ w, Calls Tryz.prog 53 #[.int .i64 i.op] w fun e w' => e = .returned (.tuple #[.agg #[.string (nameT k), .int .u32 (matT k), .int .u8 (frmT k)], .bool true]) ∧ Below w.heap.size w w') := Lib.hid fun w => by rw [hk]; exact dfind_any k h1 h2 w
  have hff := tab_form k (by omega) h1
  have HWR := Lib.hid fun w => write_any (frmT k) hff i w
  have HR := Lib.hid fun w => read_any (frmT k) hff i.op W w
  have HW : Hid (bits .or .u32 (matT k) (wF (frm (frmT k)) i) = W) := Lib.hid hW
  have HN := Lib.hid fun w => neq_ins (says (frm (frmT k)) i.op W) i w
  have HQ : Hid (eqI (says (frm (frmT k)) i.op W) i = true) := Lib.hid hq
  clear ht hq hW hk h1 h2
  rw [HQ.out] at HN
  generalize says (frm (frmT k)) i.op W = V at *
  generalize nameT k = nm at *
  generalize (matT k : Int) = mt at *
  generalize frmT k = f at *
  have HFF := Lib.hid hff
  have hf15 : (f : Int) < 15 := by omega
  have hf0 : (0 : Int) ≤ f := by omega
  clear hff
  go_enter Tryz.func21, Tryz.ntmps21
  go_wp2_with (go_at_call 53; (with_reducible refine (HF.out _).mono ?_); rintro e1 w1 ⟨rfl, hb1⟩; have HB1 : Hid (Below w.heap.size w w1) := Lib.hid (((Below.refl _ _).alloc (Nat.le_refl _) _).trans (hb1.mono (by simp))); have hs1 : w.heap.size < w1.heap.size := (by have := hb1.size; simp at this; omega); have HIR : Hid (w1.heap[w.heap.size]? = some (.cells #[.int .i64 i.op, .int .i64 i.rd, .int .i64 i.a, .int .i64 i.b, .int .i64 i.imm, .int .i64 i.csr, .bool i.aq, .bool i.rl] 23 (0, 0))) := Lib.hid ((hb1.block _ (by simp)).trans (heap_alloc_new w _)); obtain ⟨c0, c1, c2, c3, c4, c5, c6⟩ := forms_at (HT.out.below HB1.out) HFF.out; have hg0 : 0 < w1.heap.size := (HT.out.below HB1.out).lt; clear hb1)
  have HB2 : Hid (Below w.heap.size w ((w1.alloc (.cells #[.string nm, .int .u32 mt, .int .u8 f] 92)).alloc (.cells #[.int .u32 (frm f).mask, .bool (frm f).rd, .bool (frm f).a, .bool (frm f).b, .int .i64 (frm f).imm, .bool (frm f).csr, .bool (frm f).ord] 96))) := Lib.hid ((HB1.out.alloc (by omega) _).alloc (by rw [World.size_alloc]; omega) _)
  have hd : ((w1.alloc (.cells #[.string nm, .int .u32 mt, .int .u8 f] 92)).alloc (.cells #[.int .u32 (frm f).mask, .bool (frm f).rd, .bool (frm f).a, .bool (frm f).b, .int .i64 (frm f).imm, .bool (frm f).csr, .bool (frm f).ord] 96)).cell? ⟨w1.heap.size, 1, none⟩ = some (.int .u32 mt) ∧ ((w1.alloc (.cells #[.string nm, .int .u32 mt, .int .u8 f] 92)).alloc (.cells #[.int .u32 (frm f).mask, .bool (frm f).rd, .bool (frm f).a, .bool (frm f).b, .int .i64 (frm f).imm, .bool (frm f).csr, .bool (frm f).ord] 96)).cell? ⟨w1.heap.size + 1, 0, none⟩ = some (.int .u32 (frm f).mask) ∧ ((w1.alloc (.cells #[.string nm, .int .u32 mt, .int .u8 f] 92)).alloc (.cells #[.int .u32 (frm f).mask, .bool (frm f).rd, .bool (frm f).a, .bool (frm f).b, .int .i64 (frm f).imm, .bool (frm f).csr, .bool (frm f).ord] 96)).cell? ⟨w1.heap.size + 1, 1, none⟩ = some (.bool (frm f).rd) ∧ ((w1.alloc (.cells #[.string nm, .int .u32 mt, .int .u8 f] 92)).alloc (.cells #[.int .u32 (frm f).mask, .bool (frm f).rd, .bool (frm f).a, .bool (frm f).b, .int .i64 (frm f).imm, .bool (frm f).csr, .bool (frm f).ord] 96)).cell? ⟨w1.heap.size + 1, 2, none⟩ = some (.bool (frm f).a) ∧ ((w1.alloc (.cells #[.string nm, .int .u32 mt, .int .u8 f] 92)).alloc (.cells #[.int .u32 (frm f).mask, .bool (frm f).rd, .bool (frm f).a, .bool (frm f).b, .int .i64 (frm f).imm, .bool (frm f).csr, .bool (frm f).ord] 96)).cell? ⟨w1.heap.size + 1, 3, none⟩ = some (.bool (frm f).b) ∧ ((w1.alloc (.cells #[.string nm, .int .u32 mt, .int .u8 f] 92)).alloc (.cells #[.int .u32 (frm f).mask, .bool (frm f).rd, .bool (frm f).a, .bool (frm f).b, .int .i64 (frm f).imm, .bool (frm f).csr, .bool (frm f).ord] 96)).cell? ⟨w1.heap.size + 1, 4, none⟩ = some (.int .i64 (frm f).imm) ∧ ((w1.alloc (.cells #[.string nm, .int .u32 mt, .int .u8 f] 92)).alloc (.cells #[.int .u32 (frm f).mask, .bool (frm f).rd, .bool (frm f).a, .bool (frm f).b, .int .i64 (frm f).imm, .bool (frm f).csr, .bool (frm f).ord] 96)).cell? ⟨w1.heap.size + 1, 5, none⟩ = some (.bool (frm f).csr) ∧ ((w1.alloc (.cells #[.string nm, .int .u32 mt, .int .u8 f] 92)).alloc (.cells #[.int .u32 (frm f).mask, .bool (frm f).rd, .bool (frm f).a, .bool (frm f).b, .int .i64 (frm f).imm, .bool (frm f).csr, .bool (frm f).ord] 96)).cell? ⟨w1.heap.size + 1, 6, none⟩ = some (.bool (frm f).ord) ∧ ((w1.alloc (.cells #[.string nm, .int .u32 mt, .int .u8 f] 92)).alloc (.cells #[.int .u32 (frm f).mask, .bool (frm f).rd, .bool (frm f).a, .bool (frm f).b, .int .i64 (frm f).imm, .bool (frm f).csr, .bool (frm f).ord] 96)).cell? ⟨w.heap.size, 0, none⟩ = some (.int .i64 i.op) ∧ ((w1.alloc (.cells #[.string nm, .int .u32 mt, .int .u8 f] 92)).alloc (.cells #[.int .u32 (frm f).mask, .bool (frm f).rd, .bool (frm f).a, .bool (frm f).b, .int .i64 (frm f).imm, .bool (frm f).csr, .bool (frm f).ord] 96)).cell? ⟨w.heap.size, 1, none⟩ = some (.int .i64 i.rd) ∧ ((w1.alloc (.cells #[.string nm, .int .u32 mt, .int .u8 f] 92)).alloc (.cells #[.int .u32 (frm f).mask, .bool (frm f).rd, .bool (frm f).a, .bool (frm f).b, .int .i64 (frm f).imm, .bool (frm f).csr, .bool (frm f).ord] 96)).cell? ⟨w.heap.size, 2, none⟩ = some (.int .i64 i.a) ∧ ((w1.alloc (.cells #[.string nm, .int .u32 mt, .int .u8 f] 92)).alloc (.cells #[.int .u32 (frm f).mask, .bool (frm f).rd, .bool (frm f).a, .bool (frm f).b, .int .i64 (frm f).imm, .bool (frm f).csr, .bool (frm f).ord] 96)).cell? ⟨w.heap.size, 3, none⟩ = some (.int .i64 i.b) ∧ ((w1.alloc (.cells #[.string nm, .int .u32 mt, .int .u8 f] 92)).alloc (.cells #[.int .u32 (frm f).mask, .bool (frm f).rd, .bool (frm f).a, .bool (frm f).b, .int .i64 (frm f).imm, .bool (frm f).csr, .bool (frm f).ord] 96)).cell? ⟨w.heap.size, 4, none⟩ = some (.int .i64 i.imm) ∧ ((w1.alloc (.cells #[.string nm, .int .u32 mt, .int .u8 f] 92)).alloc (.cells #[.int .u32 (frm f).mask, .bool (frm f).rd, .bool (frm f).a, .bool (frm f).b, .int .i64 (frm f).imm, .bool (frm f).csr, .bool (frm f).ord] 96)).cell? ⟨w.heap.size, 5, none⟩ = some (.int .i64 i.csr) ∧ ((w1.alloc (.cells #[.string nm, .int .u32 mt, .int .u8 f] 92)).alloc (.cells #[.int .u32 (frm f).mask, .bool (frm f).rd, .bool (frm f).a, .bool (frm f).b, .int .i64 (frm f).imm, .bool (frm f).csr, .bool (frm f).ord] 96)).cell? ⟨w.heap.size, 6, none⟩ = some (.bool i.aq) ∧ ((w1.alloc (.cells #[.string nm, .int .u32 mt, .int .u8 f] 92)).alloc (.cells #[.int .u32 (frm f).mask, .bool (frm f).rd, .bool (frm f).a, .bool (frm f).b, .int .i64 (frm f).imm, .bool (frm f).csr, .bool (frm f).ord] 96)).cell? ⟨w.heap.size, 7, none⟩ = some (.bool i.rl) := by
    have r1 : ((w1.alloc (.cells #[.string nm, .int .u32 mt, .int .u8 f] 92)).alloc (.cells #[.int .u32 (frm f).mask, .bool (frm f).rd, .bool (frm f).a, .bool (frm f).b, .int .i64 (frm f).imm, .bool (frm f).csr, .bool (frm f).ord] 96)).heap[w1.heap.size]? = some (.cells #[.string nm, .int .u32 mt, .int .u8 f] 92 (0, 0)) := by
      rw [Below.heap_alloc _ _ _ (by rw [World.size_alloc]; omega)]; exact heap_alloc_new w1 _
    have r2 : ((w1.alloc (.cells #[.string nm, .int .u32 mt, .int .u8 f] 92)).alloc (.cells #[.int .u32 (frm f).mask, .bool (frm f).rd, .bool (frm f).a, .bool (frm f).b, .int .i64 (frm f).imm, .bool (frm f).csr, .bool (frm f).ord] 96)).heap[w1.heap.size + 1]? = some (.cells #[.int .u32 (frm f).mask, .bool (frm f).rd, .bool (frm f).a, .bool (frm f).b, .int .i64 (frm f).imm, .bool (frm f).csr, .bool (frm f).ord] 96 (0, 0)) := by
      rw [← World.size_alloc w1 (.cells #[.string nm, .int .u32 mt, .int .u8 f] 92)]; exact heap_alloc_new _ _
    have r3 : ((w1.alloc (.cells #[.string nm, .int .u32 mt, .int .u8 f] 92)).alloc (.cells #[.int .u32 (frm f).mask, .bool (frm f).rd, .bool (frm f).a, .bool (frm f).b, .int .i64 (frm f).imm, .bool (frm f).csr, .bool (frm f).ord] 96)).heap[w.heap.size]? = some (.cells #[.int .i64 i.op, .int .i64 i.rd, .int .i64 i.a, .int .i64 i.b, .int .i64 i.imm, .int .i64 i.csr, .bool i.aq, .bool i.rl] 23 (0, 0)) := by
      rw [Below.heap_alloc _ _ _ (by rw [World.size_alloc]; omega), Below.heap_alloc _ _ _ hs1]; exact HIR.out
    exact ⟨cell_of_row _ _ _ _ _ _ r1, cell_of_row _ _ _ _ _ _ r2, cell_of_row _ _ _ _ _ _ r2, cell_of_row _ _ _ _ _ _ r2, cell_of_row _ _ _ _ _ _ r2, cell_of_row _ _ _ _ _ _ r2, cell_of_row _ _ _ _ _ _ r2, cell_of_row _ _ _ _ _ _ r2, cell_of_row _ _ _ _ _ _ r3, cell_of_row _ _ _ _ _ _ r3, cell_of_row _ _ _ _ _ _ r3, cell_of_row _ _ _ _ _ _ r3, cell_of_row _ _ _ _ _ _ r3, cell_of_row _ _ _ _ _ _ r3, cell_of_row _ _ _ _ _ _ r3, cell_of_row _ _ _ _ _ _ r3⟩
  obtain ⟨dm, df0, df1, df2, df3, df4, df5, df6, di0, di1, di2, di3, di4, di5, di6, di7⟩ := hd
  have hm2 : w1.heap.size < ((w1.alloc (.cells #[.string nm, .int .u32 mt, .int .u8 f] 92)).alloc (.cells #[.int .u32 (frm f).mask, .bool (frm f).rd, .bool (frm f).a, .bool (frm f).b, .int .i64 (frm f).imm, .bool (frm f).csr, .bool (frm f).ord] 96)).heap.size := by rw [World.size_alloc, World.size_alloc]; omega
  have hm3 : w1.heap.size + 1 < ((w1.alloc (.cells #[.string nm, .int .u32 mt, .int .u8 f] 92)).alloc (.cells #[.int .u32 (frm f).mask, .bool (frm f).rd, .bool (frm f).a, .bool (frm f).b, .int .i64 (frm f).imm, .bool (frm f).csr, .bool (frm f).ord] 96)).heap.size := by rw [World.size_alloc, World.size_alloc]; omega
  have hn2 : w.heap.size < ((w1.alloc (.cells #[.string nm, .int .u32 mt, .int .u8 f] 92)).alloc (.cells #[.int .u32 (frm f).mask, .bool (frm f).rd, .bool (frm f).a, .bool (frm f).b, .int .i64 (frm f).imm, .bool (frm f).csr, .bool (frm f).ord] 96)).heap.size := by rw [World.size_alloc, World.size_alloc]; omega
  clear c0 c1 c2 c3 c4 c5 c6 hg0 HIR hs1 HB1
  generalize hw2 : ((w1.alloc (.cells #[.string nm, .int .u32 mt, .int .u8 f] 92)).alloc (.cells #[.int .u32 (frm f).mask, .bool (frm f).rd, .bool (frm f).a, .bool (frm f).b, .int .i64 (frm f).imm, .bool (frm f).csr, .bool (frm f).ord] 96)) = w2 at *
  clear hw2
  generalize hm : w1.heap.size = m at *
  generalize hn : w.heap.size = n at *
  have HNN := Lib.hid hn
  clear hm hn
  go_region_held3 (fun w' => w'.cell? ⟨m, 1, none⟩ = some (.int .u32 mt) ∧ w'.cell? ⟨m + 1, 0, none⟩ = some (.int .u32 (frm f).mask) ∧ w'.cell? ⟨m + 1, 1, none⟩ = some (.bool (frm f).rd) ∧ w'.cell? ⟨m + 1, 2, none⟩ = some (.bool (frm f).a) ∧ w'.cell? ⟨m + 1, 3, none⟩ = some (.bool (frm f).b) ∧ w'.cell? ⟨m + 1, 4, none⟩ = some (.int .i64 (frm f).imm) ∧ w'.cell? ⟨m + 1, 5, none⟩ = some (.bool (frm f).csr) ∧ w'.cell? ⟨m + 1, 6, none⟩ = some (.bool (frm f).ord) ∧ w'.cell? ⟨n, 0, none⟩ = some (.int .i64 i.op) ∧ w'.cell? ⟨n, 1, none⟩ = some (.int .i64 i.rd) ∧ w'.cell? ⟨n, 2, none⟩ = some (.int .i64 i.a) ∧ w'.cell? ⟨n, 3, none⟩ = some (.int .i64 i.b) ∧ w'.cell? ⟨n, 4, none⟩ = some (.int .i64 i.imm) ∧ w'.cell? ⟨n, 5, none⟩ = some (.int .i64 i.csr) ∧ w'.cell? ⟨n, 6, none⟩ = some (.bool i.aq) ∧ w'.cell? ⟨n, 7, none⟩ = some (.bool i.rl)) (go_keep)
    ((go_at_call 54; refine (HWR.out _).mono ?_; rintro e w3 ⟨rfl, hb3⟩; have em := (hb3.cell (p := ⟨m, 1, none⟩) hm2).trans dm; have ef0 := (hb3.cell (p := ⟨m + 1, 0, none⟩) hm3).trans df0; have ef1 := (hb3.cell (p := ⟨m + 1, 1, none⟩) hm3).trans df1; have ef2 := (hb3.cell (p := ⟨m + 1, 2, none⟩) hm3).trans df2; have ef3 := (hb3.cell (p := ⟨m + 1, 3, none⟩) hm3).trans df3; have ef4 := (hb3.cell (p := ⟨m + 1, 4, none⟩) hm3).trans df4; have ef5 := (hb3.cell (p := ⟨m + 1, 5, none⟩) hm3).trans df5; have ef6 := (hb3.cell (p := ⟨m + 1, 6, none⟩) hm3).trans df6; have ei0 := (hb3.cell (p := ⟨n, 0, none⟩) hn2).trans di0; have ei1 := (hb3.cell (p := ⟨n, 1, none⟩) hn2).trans di1; have ei2 := (hb3.cell (p := ⟨n, 2, none⟩) hn2).trans di2; have ei3 := (hb3.cell (p := ⟨n, 3, none⟩) hn2).trans di3; have ei4 := (hb3.cell (p := ⟨n, 4, none⟩) hn2).trans di4; have ei5 := (hb3.cell (p := ⟨n, 5, none⟩) hn2).trans di5; have ei6 := (hb3.cell (p := ⟨n, 6, none⟩) hn2).trans di6; have ei7 := (hb3.cell (p := ⟨n, 7, none⟩) hn2).trans di7; have HB3 := Lib.hid (HB2.out.trans (((Below.refl _ _).drew.trans hb3).mono (Nat.le_of_lt hn2))); have km2 : m < w3.heap.size := Nat.lt_of_lt_of_le hm2 hb3.size; have km3 : m + 1 < w3.heap.size := Nat.lt_of_lt_of_le hm3 hb3.size; have kn2 : n < w3.heap.size := Nat.lt_of_lt_of_le hn2 hb3.size; clear hb3))
  rename (_ ∧ _) => hheld
  rw [HW.out]
  clear hheld dm df0 df1 df2 df3 df4 df5 df6 di0 di1 di2 di3 di4 di5 di6 di7
  go_wp2
  have hN := HN.out
  go_region_held3 (fun w' => w'.cell? ⟨m, 1, none⟩ = some (.int .u32 mt) ∧ w'.cell? ⟨m + 1, 0, none⟩ = some (.int .u32 (frm f).mask) ∧ w'.cell? ⟨m + 1, 1, none⟩ = some (.bool (frm f).rd) ∧ w'.cell? ⟨m + 1, 2, none⟩ = some (.bool (frm f).a) ∧ w'.cell? ⟨m + 1, 3, none⟩ = some (.bool (frm f).b) ∧ w'.cell? ⟨m + 1, 4, none⟩ = some (.int .i64 (frm f).imm) ∧ w'.cell? ⟨m + 1, 5, none⟩ = some (.bool (frm f).csr) ∧ w'.cell? ⟨m + 1, 6, none⟩ = some (.bool (frm f).ord) ∧ w'.cell? ⟨n, 0, none⟩ = some (.int .i64 i.op) ∧ w'.cell? ⟨n, 1, none⟩ = some (.int .i64 i.rd) ∧ w'.cell? ⟨n, 2, none⟩ = some (.int .i64 i.a) ∧ w'.cell? ⟨n, 3, none⟩ = some (.int .i64 i.b) ∧ w'.cell? ⟨n, 4, none⟩ = some (.int .i64 i.imm) ∧ w'.cell? ⟨n, 5, none⟩ = some (.int .i64 i.csr) ∧ w'.cell? ⟨n, 6, none⟩ = some (.bool i.aq) ∧ w'.cell? ⟨n, 7, none⟩ = some (.bool i.rl)) (go_keep)
    ((go_at_call 55; refine (HR.out _).mono ?_; rintro e w4 ⟨rfl, hb4⟩; have gm := (hb4.cell (p := ⟨m, 1, none⟩) km2).trans em; have gf0 := (hb4.cell (p := ⟨m + 1, 0, none⟩) km3).trans ef0; have gf1 := (hb4.cell (p := ⟨m + 1, 1, none⟩) km3).trans ef1; have gf2 := (hb4.cell (p := ⟨m + 1, 2, none⟩) km3).trans ef2; have gf3 := (hb4.cell (p := ⟨m + 1, 3, none⟩) km3).trans ef3; have gf4 := (hb4.cell (p := ⟨m + 1, 4, none⟩) km3).trans ef4; have gf5 := (hb4.cell (p := ⟨m + 1, 5, none⟩) km3).trans ef5; have gf6 := (hb4.cell (p := ⟨m + 1, 6, none⟩) km3).trans ef6; have gi0 := (hb4.cell (p := ⟨n, 0, none⟩) kn2).trans ei0; have gi1 := (hb4.cell (p := ⟨n, 1, none⟩) kn2).trans ei1; have gi2 := (hb4.cell (p := ⟨n, 2, none⟩) kn2).trans ei2; have gi3 := (hb4.cell (p := ⟨n, 3, none⟩) kn2).trans ei3; have gi4 := (hb4.cell (p := ⟨n, 4, none⟩) kn2).trans ei4; have gi5 := (hb4.cell (p := ⟨n, 5, none⟩) kn2).trans ei5; have gi6 := (hb4.cell (p := ⟨n, 6, none⟩) kn2).trans ei6; have gi7 := (hb4.cell (p := ⟨n, 7, none⟩) kn2).trans ei7; have HB4 := Lib.hid (HB3.out.trans (((Below.refl _ _).drew.trans hb4).mono (Nat.le_of_lt kn2))); clear hb4))
  go_wp2
  go_ret2
  exact ⟨rfl, by rw [HNN.out]; exact HB4.out⟩
set_option maxHeartbeats 4000000 in
theorem encode_false (k : Nat) (h1 : 1 ≤ k) (h2 : k ≤ 113) (i : Ins) (hk : i.op = k) (W : Int) (hW : wordI (matT k) (fT k) i = W) (hq : eqI (says (fT k) i.op W) i = false) (w : World) (ht : Tab w) :
    Calls Tryz.prog 21 #[.agg #[.int .i64 i.op, .int .i64 i.rd, .int .i64 i.a, .int .i64 i.b, .int .i64 i.imm, .int .i64 i.csr, .bool i.aq, .bool i.rl]] w fun e w' => e = .returned (.tuple #[.int .u32 0, .int .i64 80]) ∧ Below w.heap.size w w' := by
  have HT := Lib.hid ht
  have HF : Hid (∀ w, Calls Tryz.prog 53 #[.int .i64 i.op] w fun e w' => e = .returned (.tuple #[.agg #[.string (nameT k), .int .u32 (matT k), .int .u8 (frmT k)], .bool true]) ∧ Below w.heap.size w w') := Lib.hid fun w => by rw [hk]; exact dfind_any k h1 h2 w
  have hff := tab_form k (by omega) h1
  have HWR := Lib.hid fun w => write_any (frmT k) hff i w
  have HR := Lib.hid fun w => read_any (frmT k) hff i.op W w
  have HW : Hid (bits .or .u32 (matT k) (wF (frm (frmT k)) i) = W) := Lib.hid hW
  have HN := Lib.hid fun w => neq_ins (says (frm (frmT k)) i.op W) i w
  have HQ : Hid (eqI (says (frm (frmT k)) i.op W) i = false) := Lib.hid hq
  clear ht hq hW hk h1 h2
  rw [HQ.out] at HN
  generalize says (frm (frmT k)) i.op W = V at *
  generalize nameT k = nm at *
  generalize (matT k : Int) = mt at *
  generalize frmT k = f at *
  have HFF := Lib.hid hff
  have hf15 : (f : Int) < 15 := by omega
  have hf0 : (0 : Int) ≤ f := by omega
  clear hff
  go_enter Tryz.func21, Tryz.ntmps21
  go_wp2_with (go_at_call 53; (with_reducible refine (HF.out _).mono ?_); rintro e1 w1 ⟨rfl, hb1⟩; have HB1 : Hid (Below w.heap.size w w1) := Lib.hid (((Below.refl _ _).alloc (Nat.le_refl _) _).trans (hb1.mono (by simp))); have hs1 : w.heap.size < w1.heap.size := (by have := hb1.size; simp at this; omega); have HIR : Hid (w1.heap[w.heap.size]? = some (.cells #[.int .i64 i.op, .int .i64 i.rd, .int .i64 i.a, .int .i64 i.b, .int .i64 i.imm, .int .i64 i.csr, .bool i.aq, .bool i.rl] 23 (0, 0))) := Lib.hid ((hb1.block _ (by simp)).trans (heap_alloc_new w _)); obtain ⟨c0, c1, c2, c3, c4, c5, c6⟩ := forms_at (HT.out.below HB1.out) HFF.out; have hg0 : 0 < w1.heap.size := (HT.out.below HB1.out).lt; clear hb1)
  have HB2 : Hid (Below w.heap.size w ((w1.alloc (.cells #[.string nm, .int .u32 mt, .int .u8 f] 92)).alloc (.cells #[.int .u32 (frm f).mask, .bool (frm f).rd, .bool (frm f).a, .bool (frm f).b, .int .i64 (frm f).imm, .bool (frm f).csr, .bool (frm f).ord] 96))) := Lib.hid ((HB1.out.alloc (by omega) _).alloc (by rw [World.size_alloc]; omega) _)
  have hd : ((w1.alloc (.cells #[.string nm, .int .u32 mt, .int .u8 f] 92)).alloc (.cells #[.int .u32 (frm f).mask, .bool (frm f).rd, .bool (frm f).a, .bool (frm f).b, .int .i64 (frm f).imm, .bool (frm f).csr, .bool (frm f).ord] 96)).cell? ⟨w1.heap.size, 1, none⟩ = some (.int .u32 mt) ∧ ((w1.alloc (.cells #[.string nm, .int .u32 mt, .int .u8 f] 92)).alloc (.cells #[.int .u32 (frm f).mask, .bool (frm f).rd, .bool (frm f).a, .bool (frm f).b, .int .i64 (frm f).imm, .bool (frm f).csr, .bool (frm f).ord] 96)).cell? ⟨w1.heap.size + 1, 0, none⟩ = some (.int .u32 (frm f).mask) ∧ ((w1.alloc (.cells #[.string nm, .int .u32 mt, .int .u8 f] 92)).alloc (.cells #[.int .u32 (frm f).mask, .bool (frm f).rd, .bool (frm f).a, .bool (frm f).b, .int .i64 (frm f).imm, .bool (frm f).csr, .bool (frm f).ord] 96)).cell? ⟨w1.heap.size + 1, 1, none⟩ = some (.bool (frm f).rd) ∧ ((w1.alloc (.cells #[.string nm, .int .u32 mt, .int .u8 f] 92)).alloc (.cells #[.int .u32 (frm f).mask, .bool (frm f).rd, .bool (frm f).a, .bool (frm f).b, .int .i64 (frm f).imm, .bool (frm f).csr, .bool (frm f).ord] 96)).cell? ⟨w1.heap.size + 1, 2, none⟩ = some (.bool (frm f).a) ∧ ((w1.alloc (.cells #[.string nm, .int .u32 mt, .int .u8 f] 92)).alloc (.cells #[.int .u32 (frm f).mask, .bool (frm f).rd, .bool (frm f).a, .bool (frm f).b, .int .i64 (frm f).imm, .bool (frm f).csr, .bool (frm f).ord] 96)).cell? ⟨w1.heap.size + 1, 3, none⟩ = some (.bool (frm f).b) ∧ ((w1.alloc (.cells #[.string nm, .int .u32 mt, .int .u8 f] 92)).alloc (.cells #[.int .u32 (frm f).mask, .bool (frm f).rd, .bool (frm f).a, .bool (frm f).b, .int .i64 (frm f).imm, .bool (frm f).csr, .bool (frm f).ord] 96)).cell? ⟨w1.heap.size + 1, 4, none⟩ = some (.int .i64 (frm f).imm) ∧ ((w1.alloc (.cells #[.string nm, .int .u32 mt, .int .u8 f] 92)).alloc (.cells #[.int .u32 (frm f).mask, .bool (frm f).rd, .bool (frm f).a, .bool (frm f).b, .int .i64 (frm f).imm, .bool (frm f).csr, .bool (frm f).ord] 96)).cell? ⟨w1.heap.size + 1, 5, none⟩ = some (.bool (frm f).csr) ∧ ((w1.alloc (.cells #[.string nm, .int .u32 mt, .int .u8 f] 92)).alloc (.cells #[.int .u32 (frm f).mask, .bool (frm f).rd, .bool (frm f).a, .bool (frm f).b, .int .i64 (frm f).imm, .bool (frm f).csr, .bool (frm f).ord] 96)).cell? ⟨w1.heap.size + 1, 6, none⟩ = some (.bool (frm f).ord) ∧ ((w1.alloc (.cells #[.string nm, .int .u32 mt, .int .u8 f] 92)).alloc (.cells #[.int .u32 (frm f).mask, .bool (frm f).rd, .bool (frm f).a, .bool (frm f).b, .int .i64 (frm f).imm, .bool (frm f).csr, .bool (frm f).ord] 96)).cell? ⟨w.heap.size, 0, none⟩ = some (.int .i64 i.op) ∧ ((w1.alloc (.cells #[.string nm, .int .u32 mt, .int .u8 f] 92)).alloc (.cells #[.int .u32 (frm f).mask, .bool (frm f).rd, .bool (frm f).a, .bool (frm f).b, .int .i64 (frm f).imm, .bool (frm f).csr, .bool (frm f).ord] 96)).cell? ⟨w.heap.size, 1, none⟩ = some (.int .i64 i.rd) ∧ ((w1.alloc (.cells #[.string nm, .int .u32 mt, .int .u8 f] 92)).alloc (.cells #[.int .u32 (frm f).mask, .bool (frm f).rd, .bool (frm f).a, .bool (frm f).b, .int .i64 (frm f).imm, .bool (frm f).csr, .bool (frm f).ord] 96)).cell? ⟨w.heap.size, 2, none⟩ = some (.int .i64 i.a) ∧ ((w1.alloc (.cells #[.string nm, .int .u32 mt, .int .u8 f] 92)).alloc (.cells #[.int .u32 (frm f).mask, .bool (frm f).rd, .bool (frm f).a, .bool (frm f).b, .int .i64 (frm f).imm, .bool (frm f).csr, .bool (frm f).ord] 96)).cell? ⟨w.heap.size, 3, none⟩ = some (.int .i64 i.b) ∧ ((w1.alloc (.cells #[.string nm, .int .u32 mt, .int .u8 f] 92)).alloc (.cells #[.int .u32 (frm f).mask, .bool (frm f).rd, .bool (frm f).a, .bool (frm f).b, .int .i64 (frm f).imm, .bool (frm f).csr, .bool (frm f).ord] 96)).cell? ⟨w.heap.size, 4, none⟩ = some (.int .i64 i.imm) ∧ ((w1.alloc (.cells #[.string nm, .int .u32 mt, .int .u8 f] 92)).alloc (.cells #[.int .u32 (frm f).mask, .bool (frm f).rd, .bool (frm f).a, .bool (frm f).b, .int .i64 (frm f).imm, .bool (frm f).csr, .bool (frm f).ord] 96)).cell? ⟨w.heap.size, 5, none⟩ = some (.int .i64 i.csr) ∧ ((w1.alloc (.cells #[.string nm, .int .u32 mt, .int .u8 f] 92)).alloc (.cells #[.int .u32 (frm f).mask, .bool (frm f).rd, .bool (frm f).a, .bool (frm f).b, .int .i64 (frm f).imm, .bool (frm f).csr, .bool (frm f).ord] 96)).cell? ⟨w.heap.size, 6, none⟩ = some (.bool i.aq) ∧ ((w1.alloc (.cells #[.string nm, .int .u32 mt, .int .u8 f] 92)).alloc (.cells #[.int .u32 (frm f).mask, .bool (frm f).rd, .bool (frm f).a, .bool (frm f).b, .int .i64 (frm f).imm, .bool (frm f).csr, .bool (frm f).ord] 96)).cell? ⟨w.heap.size, 7, none⟩ = some (.bool i.rl) := by
    have r1 : ((w1.alloc (.cells #[.string nm, .int .u32 mt, .int .u8 f] 92)).alloc (.cells #[.int .u32 (frm f).mask, .bool (frm f).rd, .bool (frm f).a, .bool (frm f).b, .int .i64 (frm f).imm, .bool (frm f).csr, .bool (frm f).ord] 96)).heap[w1.heap.size]? = some (.cells #[.string nm, .int .u32 mt, .int .u8 f] 92 (0, 0)) := by
      rw [Below.heap_alloc _ _ _ (by rw [World.size_alloc]; omega)]; exact heap_alloc_new w1 _
    have r2 : ((w1.alloc (.cells #[.string nm, .int .u32 mt, .int .u8 f] 92)).alloc (.cells #[.int .u32 (frm f).mask, .bool (frm f).rd, .bool (frm f).a, .bool (frm f).b, .int .i64 (frm f).imm, .bool (frm f).csr, .bool (frm f).ord] 96)).heap[w1.heap.size + 1]? = some (.cells #[.int .u32 (frm f).mask, .bool (frm f).rd, .bool (frm f).a, .bool (frm f).b, .int .i64 (frm f).imm, .bool (frm f).csr, .bool (frm f).ord] 96 (0, 0)) := by
      rw [← World.size_alloc w1 (.cells #[.string nm, .int .u32 mt, .int .u8 f] 92)]; exact heap_alloc_new _ _
    have r3 : ((w1.alloc (.cells #[.string nm, .int .u32 mt, .int .u8 f] 92)).alloc (.cells #[.int .u32 (frm f).mask, .bool (frm f).rd, .bool (frm f).a, .bool (frm f).b, .int .i64 (frm f).imm, .bool (frm f).csr, .bool (frm f).ord] 96)).heap[w.heap.size]? = some (.cells #[.int .i64 i.op, .int .i64 i.rd, .int .i64 i.a, .int .i64 i.b, .int .i64 i.imm, .int .i64 i.csr, .bool i.aq, .bool i.rl] 23 (0, 0)) := by
      rw [Below.heap_alloc _ _ _ (by rw [World.size_alloc]; omega), Below.heap_alloc _ _ _ hs1]; exact HIR.out
    exact ⟨cell_of_row _ _ _ _ _ _ r1, cell_of_row _ _ _ _ _ _ r2, cell_of_row _ _ _ _ _ _ r2, cell_of_row _ _ _ _ _ _ r2, cell_of_row _ _ _ _ _ _ r2, cell_of_row _ _ _ _ _ _ r2, cell_of_row _ _ _ _ _ _ r2, cell_of_row _ _ _ _ _ _ r2, cell_of_row _ _ _ _ _ _ r3, cell_of_row _ _ _ _ _ _ r3, cell_of_row _ _ _ _ _ _ r3, cell_of_row _ _ _ _ _ _ r3, cell_of_row _ _ _ _ _ _ r3, cell_of_row _ _ _ _ _ _ r3, cell_of_row _ _ _ _ _ _ r3, cell_of_row _ _ _ _ _ _ r3⟩
  obtain ⟨dm, df0, df1, df2, df3, df4, df5, df6, di0, di1, di2, di3, di4, di5, di6, di7⟩ := hd
  have hm2 : w1.heap.size < ((w1.alloc (.cells #[.string nm, .int .u32 mt, .int .u8 f] 92)).alloc (.cells #[.int .u32 (frm f).mask, .bool (frm f).rd, .bool (frm f).a, .bool (frm f).b, .int .i64 (frm f).imm, .bool (frm f).csr, .bool (frm f).ord] 96)).heap.size := by rw [World.size_alloc, World.size_alloc]; omega
  have hm3 : w1.heap.size + 1 < ((w1.alloc (.cells #[.string nm, .int .u32 mt, .int .u8 f] 92)).alloc (.cells #[.int .u32 (frm f).mask, .bool (frm f).rd, .bool (frm f).a, .bool (frm f).b, .int .i64 (frm f).imm, .bool (frm f).csr, .bool (frm f).ord] 96)).heap.size := by rw [World.size_alloc, World.size_alloc]; omega
  have hn2 : w.heap.size < ((w1.alloc (.cells #[.string nm, .int .u32 mt, .int .u8 f] 92)).alloc (.cells #[.int .u32 (frm f).mask, .bool (frm f).rd, .bool (frm f).a, .bool (frm f).b, .int .i64 (frm f).imm, .bool (frm f).csr, .bool (frm f).ord] 96)).heap.size := by rw [World.size_alloc, World.size_alloc]; omega
  clear c0 c1 c2 c3 c4 c5 c6 hg0 HIR hs1 HB1
  generalize hw2 : ((w1.alloc (.cells #[.string nm, .int .u32 mt, .int .u8 f] 92)).alloc (.cells #[.int .u32 (frm f).mask, .bool (frm f).rd, .bool (frm f).a, .bool (frm f).b, .int .i64 (frm f).imm, .bool (frm f).csr, .bool (frm f).ord] 96)) = w2 at *
  clear hw2
  generalize hm : w1.heap.size = m at *
  generalize hn : w.heap.size = n at *
  have HNN := Lib.hid hn
  clear hm hn
  go_region_held3 (fun w' => w'.cell? ⟨m, 1, none⟩ = some (.int .u32 mt) ∧ w'.cell? ⟨m + 1, 0, none⟩ = some (.int .u32 (frm f).mask) ∧ w'.cell? ⟨m + 1, 1, none⟩ = some (.bool (frm f).rd) ∧ w'.cell? ⟨m + 1, 2, none⟩ = some (.bool (frm f).a) ∧ w'.cell? ⟨m + 1, 3, none⟩ = some (.bool (frm f).b) ∧ w'.cell? ⟨m + 1, 4, none⟩ = some (.int .i64 (frm f).imm) ∧ w'.cell? ⟨m + 1, 5, none⟩ = some (.bool (frm f).csr) ∧ w'.cell? ⟨m + 1, 6, none⟩ = some (.bool (frm f).ord) ∧ w'.cell? ⟨n, 0, none⟩ = some (.int .i64 i.op) ∧ w'.cell? ⟨n, 1, none⟩ = some (.int .i64 i.rd) ∧ w'.cell? ⟨n, 2, none⟩ = some (.int .i64 i.a) ∧ w'.cell? ⟨n, 3, none⟩ = some (.int .i64 i.b) ∧ w'.cell? ⟨n, 4, none⟩ = some (.int .i64 i.imm) ∧ w'.cell? ⟨n, 5, none⟩ = some (.int .i64 i.csr) ∧ w'.cell? ⟨n, 6, none⟩ = some (.bool i.aq) ∧ w'.cell? ⟨n, 7, none⟩ = some (.bool i.rl)) (go_keep)
    ((go_at_call 54; refine (HWR.out _).mono ?_; rintro e w3 ⟨rfl, hb3⟩; have em := (hb3.cell (p := ⟨m, 1, none⟩) hm2).trans dm; have ef0 := (hb3.cell (p := ⟨m + 1, 0, none⟩) hm3).trans df0; have ef1 := (hb3.cell (p := ⟨m + 1, 1, none⟩) hm3).trans df1; have ef2 := (hb3.cell (p := ⟨m + 1, 2, none⟩) hm3).trans df2; have ef3 := (hb3.cell (p := ⟨m + 1, 3, none⟩) hm3).trans df3; have ef4 := (hb3.cell (p := ⟨m + 1, 4, none⟩) hm3).trans df4; have ef5 := (hb3.cell (p := ⟨m + 1, 5, none⟩) hm3).trans df5; have ef6 := (hb3.cell (p := ⟨m + 1, 6, none⟩) hm3).trans df6; have ei0 := (hb3.cell (p := ⟨n, 0, none⟩) hn2).trans di0; have ei1 := (hb3.cell (p := ⟨n, 1, none⟩) hn2).trans di1; have ei2 := (hb3.cell (p := ⟨n, 2, none⟩) hn2).trans di2; have ei3 := (hb3.cell (p := ⟨n, 3, none⟩) hn2).trans di3; have ei4 := (hb3.cell (p := ⟨n, 4, none⟩) hn2).trans di4; have ei5 := (hb3.cell (p := ⟨n, 5, none⟩) hn2).trans di5; have ei6 := (hb3.cell (p := ⟨n, 6, none⟩) hn2).trans di6; have ei7 := (hb3.cell (p := ⟨n, 7, none⟩) hn2).trans di7; have HB3 := Lib.hid (HB2.out.trans (((Below.refl _ _).drew.trans hb3).mono (Nat.le_of_lt hn2))); have km2 : m < w3.heap.size := Nat.lt_of_lt_of_le hm2 hb3.size; have km3 : m + 1 < w3.heap.size := Nat.lt_of_lt_of_le hm3 hb3.size; have kn2 : n < w3.heap.size := Nat.lt_of_lt_of_le hn2 hb3.size; clear hb3))
  rename (_ ∧ _) => hheld
  rw [HW.out]
  clear hheld dm df0 df1 df2 df3 df4 df5 df6 di0 di1 di2 di3 di4 di5 di6 di7
  go_wp2
  have hN := HN.out
  go_region_held3 (fun w' => w'.cell? ⟨m, 1, none⟩ = some (.int .u32 mt) ∧ w'.cell? ⟨m + 1, 0, none⟩ = some (.int .u32 (frm f).mask) ∧ w'.cell? ⟨m + 1, 1, none⟩ = some (.bool (frm f).rd) ∧ w'.cell? ⟨m + 1, 2, none⟩ = some (.bool (frm f).a) ∧ w'.cell? ⟨m + 1, 3, none⟩ = some (.bool (frm f).b) ∧ w'.cell? ⟨m + 1, 4, none⟩ = some (.int .i64 (frm f).imm) ∧ w'.cell? ⟨m + 1, 5, none⟩ = some (.bool (frm f).csr) ∧ w'.cell? ⟨m + 1, 6, none⟩ = some (.bool (frm f).ord) ∧ w'.cell? ⟨n, 0, none⟩ = some (.int .i64 i.op) ∧ w'.cell? ⟨n, 1, none⟩ = some (.int .i64 i.rd) ∧ w'.cell? ⟨n, 2, none⟩ = some (.int .i64 i.a) ∧ w'.cell? ⟨n, 3, none⟩ = some (.int .i64 i.b) ∧ w'.cell? ⟨n, 4, none⟩ = some (.int .i64 i.imm) ∧ w'.cell? ⟨n, 5, none⟩ = some (.int .i64 i.csr) ∧ w'.cell? ⟨n, 6, none⟩ = some (.bool i.aq) ∧ w'.cell? ⟨n, 7, none⟩ = some (.bool i.rl)) (go_keep)
    ((go_at_call 55; refine (HR.out _).mono ?_; rintro e w4 ⟨rfl, hb4⟩; have gm := (hb4.cell (p := ⟨m, 1, none⟩) km2).trans em; have gf0 := (hb4.cell (p := ⟨m + 1, 0, none⟩) km3).trans ef0; have gf1 := (hb4.cell (p := ⟨m + 1, 1, none⟩) km3).trans ef1; have gf2 := (hb4.cell (p := ⟨m + 1, 2, none⟩) km3).trans ef2; have gf3 := (hb4.cell (p := ⟨m + 1, 3, none⟩) km3).trans ef3; have gf4 := (hb4.cell (p := ⟨m + 1, 4, none⟩) km3).trans ef4; have gf5 := (hb4.cell (p := ⟨m + 1, 5, none⟩) km3).trans ef5; have gf6 := (hb4.cell (p := ⟨m + 1, 6, none⟩) km3).trans ef6; have gi0 := (hb4.cell (p := ⟨n, 0, none⟩) kn2).trans ei0; have gi1 := (hb4.cell (p := ⟨n, 1, none⟩) kn2).trans ei1; have gi2 := (hb4.cell (p := ⟨n, 2, none⟩) kn2).trans ei2; have gi3 := (hb4.cell (p := ⟨n, 3, none⟩) kn2).trans ei3; have gi4 := (hb4.cell (p := ⟨n, 4, none⟩) kn2).trans ei4; have gi5 := (hb4.cell (p := ⟨n, 5, none⟩) kn2).trans ei5; have gi6 := (hb4.cell (p := ⟨n, 6, none⟩) kn2).trans ei6; have gi7 := (hb4.cell (p := ⟨n, 7, none⟩) kn2).trans ei7; have HB4 := Lib.hid (HB3.out.trans (((Below.refl _ _).drew.trans hb4).mono (Nat.le_of_lt kn2))); clear hb4))
  go_wp2
  go_ret2
  exact ⟨rfl, by rw [HNN.out]; exact HB4.out⟩
end Go.Proofs.YtakdhdaoklcidaaGreatDoor

namespace Go.Proofs.YtakdhdaoklcidaaGreatDoor
open Go.RowKit
set_option linter.unusedVariables false
set_option maxRecDepth 100000
theorem encode_is (i : Ins) (w : World) (ht : Tab w) :
    Calls Tryz.prog 21 #[.agg #[.int .i64 i.op, .int .i64 i.rd, .int .i64 i.a, .int .i64 i.b, .int .i64 i.imm, .int .i64 i.csr, .bool i.aq, .bool i.rl]] w fun e w' => e = .returned (.tuple #[.int .u32 (encW i), .int .i64 (encE i)]) ∧ Below w.heap.size w w' := by
  unfold encW encE
  cases h : rightB i
  · show Calls Tryz.prog 21 _ w fun e w' => e = .returned (.tuple #[.int .u32 0, .int .i64 80]) ∧ _
    by_cases c : 1 ≤ i.op ∧ i.op ≤ 113
    · have e : i.op = (i.op.toNat : Int) := by omega
      refine encode_false i.op.toNat (by omega) (by omega) i e _ rfl ?_ w ht
      cases hq : eqI (says (fT i.op.toNat) i.op (wordI (matT i.op.toNat) (fT i.op.toNat) i)) i
      · rfl
      · unfold rightB at h
        rw [decide_eq_true c, hq] at h; cases h
    · exact encode_none i c w
  · obtain ⟨h1, h2, h3, h4⟩ := rightT_of h
    show Calls Tryz.prog 21 _ w fun e w' => e = .returned (.tuple #[.int .u32 (wordI (matT i.op.toNat) (fT i.op.toNat) i), .int .i64 0]) ∧ _
    exact encode_true i.op.toNat h1 h2 i h3 _ rfl ((eqI_iff _ _).2 ((right_iff h1 (by omega) i).2 h4)) w ht
end Go.Proofs.YtakdhdaoklcidaaGreatDoor

namespace Go.Proofs.YtakdhdaoklcidaaGreatDoor
open Go.RowKit
set_option linter.unusedVariables false
set_option maxRecDepth 100000
section
variable {Q : Exit → Act → World → Prop} {w : World} {a : Act}
theorem chainN {kk : Int} (j : Nat) {n ix d : Nat} (hne : ¬ kk = (j : Int)) (ha : At3 kk n a) (hd : 3 < d) (hd2 : d + 1 < 344) {p1 p2 : String} {ty : TypeId} {af : Array Edge} {X Y : Code}
    (hn : ∀ a', At3 kk n a' → Y.wp Tryz.prog Q a' w) :
    ((Code.region ix #[{ dst := some (d + 1), op := .binOp .eql 3 (.tmp 3) (.const (.int .i64 j)) 3, type := ty, pos := p1, after := #[], guard := none }, { dst := some d, op := .assign (.tmp (d + 1)), type := ty, pos := p2, after := af, guard := none }] false).seq (Code.cond (.tmp d) X Y)).wp Tryz.prog Q a w := by
  refine wp_seq (wp_region_list ?_)
  refine wpList_eqlI rfl rfl ha.t3 ?_
  refine wpList_asg rfl rfl (wpList_nil ?_)
  rw [Act.eval_put_same _ _ _ (by rw [ha.sz]; omega)]
  show (Code.cond (.tmp d) X Y).wp Tryz.prog Q _ w
  have ha' := (ha.put (show 3 < d + 1 by omega) (.bool (kk == j))).put hd (.bool (kk == j))
  have hb : (kk == (j : Int)) = false := by rw [beq_eq_false_iff_ne]; exact hne
  refine wp_cond_false ?_ (hn _ ha')
  rw [Act.eval_put_same _ _ _ (by rw [Act.size_put, ha.sz]; omega), hb]
theorem bldX0 : Tryz.prog.built 59 [] = some #[.string ⟨#[]⟩, .int .u32 0, .int .u32 0, .int .u8 0] := by kernel_rfl
theorem row_zero {R : Ending → World → Prop} {kk : Int} {n e ix : Nat} {old : Array Value} (ha : At3 kk n a) (he : 3 < e) (he2 : e < 344) {p1 p2 : String} {ty ty2 : TypeId} {af : Array Edge}
    (hw : w.heap[n]? = some (.cells old 59 (0, 0))) (ho : old.size = 4) (hQ : ∀ a' w', bodyPost Tryz.prog Tryz.f31 R .ret a' w' → Q .ret a' w')
    (hR : R (.returned (.agg #[.string ⟨#[]⟩, .int .u32 0, .int .u32 0, .int .u8 0])) (w.setRow n #[.string ⟨#[]⟩, .int .u32 0, .int .u32 0, .int .u8 0])) :
    ((Code.region ix #[{ dst := some e, op := .build 59 #[], type := ty, pos := p1, after := #[], guard := none }, { dst := none, op := .store 59 (.tmp 2) (.tmp e), type := ty2, pos := p2, after := af, guard := none }] false).seq Code.ret).wp Tryz.prog Q a w := by
  refine wp_seq (wp_region_list ?_)
  refine wpList_build rfl _ _ rfl (by simp [bldX0]) ?_
  simp only [List.map_toArray, List.map_nil]
  have hev : Tryz.prog.built 59 [] = some #[.string ⟨#[]⟩, .int .u32 0, .int .u32 0, .int .u8 0] := bldX0
  rw [hev]
  have ha' := ha.put he (.agg #[.string ⟨#[]⟩, .int .u32 0, .int .u32 0, .int .u8 0])
  refine wpList_store_row rfl _ _ _ rfl n #[.string ⟨#[]⟩, .int .u32 0, .int .u32 0, .int .u8 0] ha'.t2 (Act.eval_put_same _ _ _ (by rw [ha.sz]; omega)) _ old hw size_rowX ho (by simp [Value.oneCell']) (wpList_nil ?_)
  show Code.ret.wp Tryz.prog Q _ _
  refine wp_ret (hQ _ _ ?_)
  exact bodyPost_ret (results_cell_row hres _ _ n 59 _ _ _ ha'.t2 (setRow_heap _ _ _ _ _ _ hw) Tryz.underlying59 rfl size_rowX) ha'.df hR
end
set_option maxHeartbeats 4000000 in
theorem refRow_no (op : Int) (h : ¬ (1 ≤ op ∧ op ≤ 113)) (w : World) :
    Calls Tryz.prog 31 #[.int .i64 op] w fun e w' => e = .returned (.agg #[.string ⟨#[]⟩, .int .u32 0, .int .u32 0, .int .u8 0]) ∧ Below w.heap.size w w' := by
  let R0 : Ending → World → Prop := fun e w' => e = .returned (.agg #[.string ⟨#[]⟩, .int .u32 0, .int .u32 0, .int .u8 0]) ∧ Below w.heap.size w w'
  go_enter Tryz.func31, Tryz.ntmps31
  go_upto_block 0 with (fail)
  refine wp_block ?_
  have hw := heap_alloc_new w (.cells #[.string ⟨#[]⟩, .int .u32 0, .int .u32 0, .int .u8 0] 59)
  have hb : ∀ cs, Below w.heap.size w ((w.alloc (.cells #[.string ⟨#[]⟩, .int .u32 0, .int .u32 0, .int .u8 0] 59)).setRow w.heap.size cs) := fun cs => below_setRow ((Below.refl _ _).alloc (Nat.le_refl _) _) (Nat.le_refl _) cs
  generalize w.alloc (.cells #[.string ⟨#[]⟩, .int .u32 0, .int .u32 0, .int .u8 0] 59) = w1 at *
  refine chainN 1 (by omega) ⟨rfl, rfl, rfl, rfl⟩ (by omega) (by omega) (fun a1 h1 => ?_)
  refine chainN 2 (by omega) h1 (by omega) (by omega) (fun a2 h2 => ?_)
  refine chainN 3 (by omega) h2 (by omega) (by omega) (fun a3 h3 => ?_)
  refine chainN 4 (by omega) h3 (by omega) (by omega) (fun a4 h4 => ?_)
  refine chainN 5 (by omega) h4 (by omega) (by omega) (fun a5 h5 => ?_)
  refine chainN 6 (by omega) h5 (by omega) (by omega) (fun a6 h6 => ?_)
  refine chainN 7 (by omega) h6 (by omega) (by omega) (fun a7 h7 => ?_)
  refine chainN 8 (by omega) h7 (by omega) (by omega) (fun a8 h8 => ?_)
  refine chainN 9 (by omega) h8 (by omega) (by omega) (fun a9 h9 => ?_)
  refine chainN 10 (by omega) h9 (by omega) (by omega) (fun a10 h10 => ?_)
  refine chainN 11 (by omega) h10 (by omega) (by omega) (fun a11 h11 => ?_)
  refine chainN 12 (by omega) h11 (by omega) (by omega) (fun a12 h12 => ?_)
  refine chainN 13 (by omega) h12 (by omega) (by omega) (fun a13 h13 => ?_)
  refine chainN 14 (by omega) h13 (by omega) (by omega) (fun a14 h14 => ?_)
  refine chainN 15 (by omega) h14 (by omega) (by omega) (fun a15 h15 => ?_)
  refine chainN 16 (by omega) h15 (by omega) (by omega) (fun a16 h16 => ?_)
  refine chainN 17 (by omega) h16 (by omega) (by omega) (fun a17 h17 => ?_)
  refine chainN 18 (by omega) h17 (by omega) (by omega) (fun a18 h18 => ?_)
  refine chainN 19 (by omega) h18 (by omega) (by omega) (fun a19 h19 => ?_)
  refine chainN 20 (by omega) h19 (by omega) (by omega) (fun a20 h20 => ?_)
  refine chainN 21 (by omega) h20 (by omega) (by omega) (fun a21 h21 => ?_)
  refine chainN 22 (by omega) h21 (by omega) (by omega) (fun a22 h22 => ?_)
  refine chainN 23 (by omega) h22 (by omega) (by omega) (fun a23 h23 => ?_)
  refine chainN 24 (by omega) h23 (by omega) (by omega) (fun a24 h24 => ?_)
  refine chainN 25 (by omega) h24 (by omega) (by omega) (fun a25 h25 => ?_)
  refine chainN 26 (by omega) h25 (by omega) (by omega) (fun a26 h26 => ?_)
  refine chainN 27 (by omega) h26 (by omega) (by omega) (fun a27 h27 => ?_)
  refine chainN 28 (by omega) h27 (by omega) (by omega) (fun a28 h28 => ?_)
  refine chainN 29 (by omega) h28 (by omega) (by omega) (fun a29 h29 => ?_)
  refine chainN 30 (by omega) h29 (by omega) (by omega) (fun a30 h30 => ?_)
  refine chainN 31 (by omega) h30 (by omega) (by omega) (fun a31 h31 => ?_)
  refine chainN 32 (by omega) h31 (by omega) (by omega) (fun a32 h32 => ?_)
  refine chainN 33 (by omega) h32 (by omega) (by omega) (fun a33 h33 => ?_)
  refine chainN 34 (by omega) h33 (by omega) (by omega) (fun a34 h34 => ?_)
  refine chainN 35 (by omega) h34 (by omega) (by omega) (fun a35 h35 => ?_)
  refine chainN 36 (by omega) h35 (by omega) (by omega) (fun a36 h36 => ?_)
  refine chainN 37 (by omega) h36 (by omega) (by omega) (fun a37 h37 => ?_)
  refine chainN 38 (by omega) h37 (by omega) (by omega) (fun a38 h38 => ?_)
  refine chainN 39 (by omega) h38 (by omega) (by omega) (fun a39 h39 => ?_)
  refine chainN 40 (by omega) h39 (by omega) (by omega) (fun a40 h40 => ?_)
  refine chainN 41 (by omega) h40 (by omega) (by omega) (fun a41 h41 => ?_)
  refine chainN 42 (by omega) h41 (by omega) (by omega) (fun a42 h42 => ?_)
  refine chainN 43 (by omega) h42 (by omega) (by omega) (fun a43 h43 => ?_)
  refine chainN 44 (by omega) h43 (by omega) (by omega) (fun a44 h44 => ?_)
  refine chainN 45 (by omega) h44 (by omega) (by omega) (fun a45 h45 => ?_)
  refine chainN 46 (by omega) h45 (by omega) (by omega) (fun a46 h46 => ?_)
  refine chainN 47 (by omega) h46 (by omega) (by omega) (fun a47 h47 => ?_)
  refine chainN 48 (by omega) h47 (by omega) (by omega) (fun a48 h48 => ?_)
  refine chainN 49 (by omega) h48 (by omega) (by omega) (fun a49 h49 => ?_)
  refine chainN 50 (by omega) h49 (by omega) (by omega) (fun a50 h50 => ?_)
  refine chainN 51 (by omega) h50 (by omega) (by omega) (fun a51 h51 => ?_)
  refine chainN 52 (by omega) h51 (by omega) (by omega) (fun a52 h52 => ?_)
  refine chainN 53 (by omega) h52 (by omega) (by omega) (fun a53 h53 => ?_)
  refine chainN 54 (by omega) h53 (by omega) (by omega) (fun a54 h54 => ?_)
  refine chainN 55 (by omega) h54 (by omega) (by omega) (fun a55 h55 => ?_)
  refine chainN 56 (by omega) h55 (by omega) (by omega) (fun a56 h56 => ?_)
  refine chainN 57 (by omega) h56 (by omega) (by omega) (fun a57 h57 => ?_)
  refine chainN 58 (by omega) h57 (by omega) (by omega) (fun a58 h58 => ?_)
  refine chainN 59 (by omega) h58 (by omega) (by omega) (fun a59 h59 => ?_)
  refine chainN 60 (by omega) h59 (by omega) (by omega) (fun a60 h60 => ?_)
  refine chainN 61 (by omega) h60 (by omega) (by omega) (fun a61 h61 => ?_)
  refine chainN 62 (by omega) h61 (by omega) (by omega) (fun a62 h62 => ?_)
  refine chainN 63 (by omega) h62 (by omega) (by omega) (fun a63 h63 => ?_)
  refine chainN 64 (by omega) h63 (by omega) (by omega) (fun a64 h64 => ?_)
  refine chainN 65 (by omega) h64 (by omega) (by omega) (fun a65 h65 => ?_)
  refine chainN 66 (by omega) h65 (by omega) (by omega) (fun a66 h66 => ?_)
  refine chainN 67 (by omega) h66 (by omega) (by omega) (fun a67 h67 => ?_)
  refine chainN 68 (by omega) h67 (by omega) (by omega) (fun a68 h68 => ?_)
  refine chainN 69 (by omega) h68 (by omega) (by omega) (fun a69 h69 => ?_)
  refine chainN 70 (by omega) h69 (by omega) (by omega) (fun a70 h70 => ?_)
  refine chainN 71 (by omega) h70 (by omega) (by omega) (fun a71 h71 => ?_)
  refine chainN 72 (by omega) h71 (by omega) (by omega) (fun a72 h72 => ?_)
  refine chainN 73 (by omega) h72 (by omega) (by omega) (fun a73 h73 => ?_)
  refine chainN 74 (by omega) h73 (by omega) (by omega) (fun a74 h74 => ?_)
  refine chainN 75 (by omega) h74 (by omega) (by omega) (fun a75 h75 => ?_)
  refine chainN 76 (by omega) h75 (by omega) (by omega) (fun a76 h76 => ?_)
  refine chainN 77 (by omega) h76 (by omega) (by omega) (fun a77 h77 => ?_)
  refine chainN 78 (by omega) h77 (by omega) (by omega) (fun a78 h78 => ?_)
  refine chainN 79 (by omega) h78 (by omega) (by omega) (fun a79 h79 => ?_)
  refine chainN 80 (by omega) h79 (by omega) (by omega) (fun a80 h80 => ?_)
  refine chainN 81 (by omega) h80 (by omega) (by omega) (fun a81 h81 => ?_)
  refine chainN 82 (by omega) h81 (by omega) (by omega) (fun a82 h82 => ?_)
  refine chainN 83 (by omega) h82 (by omega) (by omega) (fun a83 h83 => ?_)
  refine chainN 84 (by omega) h83 (by omega) (by omega) (fun a84 h84 => ?_)
  refine chainN 85 (by omega) h84 (by omega) (by omega) (fun a85 h85 => ?_)
  refine chainN 86 (by omega) h85 (by omega) (by omega) (fun a86 h86 => ?_)
  refine chainN 87 (by omega) h86 (by omega) (by omega) (fun a87 h87 => ?_)
  refine chainN 88 (by omega) h87 (by omega) (by omega) (fun a88 h88 => ?_)
  refine chainN 89 (by omega) h88 (by omega) (by omega) (fun a89 h89 => ?_)
  refine chainN 90 (by omega) h89 (by omega) (by omega) (fun a90 h90 => ?_)
  refine chainN 91 (by omega) h90 (by omega) (by omega) (fun a91 h91 => ?_)
  refine chainN 92 (by omega) h91 (by omega) (by omega) (fun a92 h92 => ?_)
  refine chainN 93 (by omega) h92 (by omega) (by omega) (fun a93 h93 => ?_)
  refine chainN 94 (by omega) h93 (by omega) (by omega) (fun a94 h94 => ?_)
  refine chainN 95 (by omega) h94 (by omega) (by omega) (fun a95 h95 => ?_)
  refine chainN 96 (by omega) h95 (by omega) (by omega) (fun a96 h96 => ?_)
  refine chainN 97 (by omega) h96 (by omega) (by omega) (fun a97 h97 => ?_)
  refine chainN 98 (by omega) h97 (by omega) (by omega) (fun a98 h98 => ?_)
  refine chainN 99 (by omega) h98 (by omega) (by omega) (fun a99 h99 => ?_)
  refine chainN 100 (by omega) h99 (by omega) (by omega) (fun a100 h100 => ?_)
  refine chainN 101 (by omega) h100 (by omega) (by omega) (fun a101 h101 => ?_)
  refine chainN 102 (by omega) h101 (by omega) (by omega) (fun a102 h102 => ?_)
  refine chainN 103 (by omega) h102 (by omega) (by omega) (fun a103 h103 => ?_)
  refine chainN 104 (by omega) h103 (by omega) (by omega) (fun a104 h104 => ?_)
  refine chainN 105 (by omega) h104 (by omega) (by omega) (fun a105 h105 => ?_)
  refine chainN 106 (by omega) h105 (by omega) (by omega) (fun a106 h106 => ?_)
  refine chainN 107 (by omega) h106 (by omega) (by omega) (fun a107 h107 => ?_)
  refine chainN 108 (by omega) h107 (by omega) (by omega) (fun a108 h108 => ?_)
  refine chainN 109 (by omega) h108 (by omega) (by omega) (fun a109 h109 => ?_)
  refine chainN 110 (by omega) h109 (by omega) (by omega) (fun a110 h110 => ?_)
  refine chainN 111 (by omega) h110 (by omega) (by omega) (fun a111 h111 => ?_)
  refine chainN 112 (by omega) h111 (by omega) (by omega) (fun a112 h112 => ?_)
  refine chainN 113 (by omega) h112 (by omega) (by omega) (fun a113 h113 => ?_)
  refine wp_skip ?_
  rename ∀ (a : Act) (w : World), _ → _ => hK
  refine hK _ _ ?_
  exact row_zero (R := R0) h113 (by omega) (by omega) hw rfl (fun _ _ h => h) ⟨rfl, hb _⟩
theorem fld_name (s : ByteArray) (mk mt l : Int) (w : World) : (Instr.field 59 (.agg #[.string s, .int .u32 mk, .int .u32 mt, .int .u8 l]) 0).run Tryz.prog w = .ok (.string s) w := by kernel_rfl
set_option maxHeartbeats 1000000 in
theorem refOp_yes (k : Nat) (h1 : 1 ≤ k) (h2 : k ≤ 113) (s : ByteArray) (hk : sameT k s = true) (hno : ∀ j, 1 ≤ j → j < k → sameT j s = false) (w : World) :
    Calls Tryz.prog 70 #[.string s] w fun e w' => e = .returned (.int .i64 k) ∧ Below w.heap.size w w' := by
  have HK := Lib.hid hk
  have HNO := Lib.hid hno
  clear hk hno
  have hfl := fld_name
  go_enter Tryz.func70, Tryz.ntmps70
  go_wp2
  go_loopw [3] (fun i wr => ∃ j : Nat, 1 ≤ j ∧ j ≤ k ∧ i = .int .i64 j ∧ Below w.heap.size w wr) (fun i _ => (k + 1 - intOf i).toNat)
  case atStart => exact ⟨1, by omega, h1, rfl, Below.refl _ _⟩
  case round =>
    obtain ⟨j, hj1, hj2, rfl, hz⟩ := hrel
    have HZ := Lib.hid hz
    clear hz
    have hj3 : (j : Int) ≤ 113 := by omega
    have HF := Lib.hid fun w => refRow_any j hj1 (by omega) w
    generalize (mskT j : Int) = mk at *
    generalize (matT j : Int) = mt at *
    generalize (letT (frmT j) : Int) = lt at *
    by_cases e : j < k
    · have hq : ((nameT j).toList == s.toList) = false := HNO.out j hj1 e
      generalize nameT j = nm at *
      clear hj1
      go_wp2_with (go_at_call 31; (with_reducible refine (HF.out _).mono ?_); rintro e1 w1 ⟨rfl, hb1⟩; have HZ1 := Lib.hid (HZ.out.trans (hb1.mono HZ.out.size)); clear hb1)
      go_roundw
      case rel => exact ⟨j + 1, by omega, by omega, by go_num, HZ1.out⟩
      case measure => simp [intOf]; omega
    · obtain rfl : j = k := by omega
      have hq : ((nameT j).toList == s.toList) = true := HK.out
      generalize nameT j = nm at *
      clear hj1
      go_wp2_with (go_at_call 31; (with_reducible refine (HF.out _).mono ?_); rintro e1 w1 ⟨rfl, hb1⟩; have HZ1 := Lib.hid (HZ.out.trans (hb1.mono HZ.out.size)); clear hb1)
      go_ret
      exact ⟨rfl, HZ1.out⟩
set_option maxHeartbeats 1000000 in
theorem refOp_no (s : ByteArray) (hno : ∀ j, 1 ≤ j → j ≤ 113 → sameT j s = false) (w : World) :
    Calls Tryz.prog 70 #[.string s] w fun e w' => e = .returned (.int .i64 0) ∧ Below w.heap.size w w' := by
  have HNO := Lib.hid hno
  clear hno
  have hfl := fld_name
  go_enter Tryz.func70, Tryz.ntmps70
  go_wp2
  go_loopw [3] (fun i wr => ∃ j : Nat, 1 ≤ j ∧ j ≤ 114 ∧ i = .int .i64 j ∧ Below w.heap.size w wr) (fun i _ => (115 - intOf i).toNat)
  case atStart => exact ⟨1, by omega, by omega, rfl, Below.refl _ _⟩
  case round =>
    obtain ⟨j, hj1, hj2, rfl, hz⟩ := hrel
    have HZ := Lib.hid hz
    clear hz
    by_cases e : j ≤ 113
    · have hj3 : (j : Int) ≤ 113 := by omega
      have HF := Lib.hid fun w => refRow_any j hj1 (by omega) w
      have hq : ((nameT j).toList == s.toList) = false := HNO.out j hj1 e
      generalize (mskT j : Int) = mk at *
      generalize (matT j : Int) = mt at *
      generalize (letT (frmT j) : Int) = lt at *
      generalize nameT j = nm at *
      clear hj1
      go_wp2_with (go_at_call 31; (with_reducible refine (HF.out _).mono ?_); rintro e1 w1 ⟨rfl, hb1⟩; have HZ1 := Lib.hid (HZ.out.trans (hb1.mono HZ.out.size)); clear hb1)
      go_roundw
      case rel => exact ⟨j + 1, by omega, by omega, by go_num, HZ1.out⟩
      case measure => simp [intOf]; omega
    · obtain rfl : j = 114 := by omega
      go_wp2
      go_ret
      exact ⟨rfl, HZ.out⟩
end Go.Proofs.YtakdhdaoklcidaaGreatDoor

namespace Go.Proofs.YtakdhdaoklcidaaGreatDoor
open Go.RowKit
set_option linter.unusedVariables false
set_option maxRecDepth 100000
def nameF (op : Int) : ByteArray := if 1 ≤ op ∧ op ≤ 113 then nameT op.toNat else ⟨#[]⟩
def opF (s : ByteArray) : Nat := ((List.range 114).find? fun j => decide (1 ≤ j) && sameT j s).getD 0
theorem sameT_nameL {j k : Nat} {s : ByteArray} (a : sameT j s = true) (b : sameT k s = true) : nameL.getD j [] = nameL.getD k [] := by
  unfold sameT at a b
  have e : (nameT j).toList = (nameT k).toList := (beq_iff_eq.1 a).trans (beq_iff_eq.1 b).symm
  rw [ByteArray.toList_eq, ByteArray.toList_eq] at e
  simpa [nameT] using e
theorem sameT_uniq {j k : Nat} {s : ByteArray} (hj : j < 114) (hk : k < 114) (a : sameT j s = true) (b : sameT k s = true) : j = k := by
  have e := sameT_nameL a b
  rcases Nat.lt_trichotomy j k with h | h | h
  · exact absurd e (name_apart j hj k hk h)
  · exact h
  · exact absurd e.symm (name_apart k hk j hj h)
theorem opF_at {k : Nat} {s : ByteArray} (h1 : 1 ≤ k) (h2 : k ≤ 113) (h : sameT k s = true) : opF s = k := by
  unfold opF
  cases e : (List.range 114).find? fun j => decide (1 ≤ j) && sameT j s with
  | none =>
    have := (List.find?_eq_none.1 e) k (List.mem_range.2 (by omega))
    rw [decide_eq_true h1, h] at this
    simp at this
  | some j =>
    have hj := List.find?_some e
    have hm := List.mem_range.1 (List.mem_of_find?_eq_some e)
    rw [Bool.and_eq_true, decide_eq_true_eq] at hj
    exact sameT_uniq hm (by omega) hj.2 h
theorem opF_is {s : ByteArray} (h : ¬ opF s = 0) : 1 ≤ opF s ∧ opF s ≤ 113 ∧ sameT (opF s) s = true := by
  cases e : (List.range 114).find? fun j => decide (1 ≤ j) && sameT j s with
  | none => exact absurd (by unfold opF; rw [e]; rfl) h
  | some j =>
    have hj := List.find?_some e
    have hm := List.mem_range.1 (List.mem_of_find?_eq_some e)
    rw [Bool.and_eq_true, decide_eq_true_eq] at hj
    have : opF s = j := by unfold opF; rw [e]; rfl
    rw [this]; exact ⟨hj.1, by omega, hj.2⟩
theorem opF_none {s : ByteArray} (h : opF s = 0) (j : Nat) (h1 : 1 ≤ j) (h2 : j ≤ 113) : sameT j s = false := by
  cases e : sameT j s
  · rfl
  · rw [opF_at h1 h2 e] at h; omega
theorem first_no {s : ByteArray} (h : ¬ opF s = 0) (j : Nat) (h1 : 1 ≤ j) (h2 : j < opF s) : sameT j s = false := by
  obtain ⟨a, b, c⟩ := opF_is h
  cases e : sameT j s
  · rfl
  · have := sameT_uniq (by omega) (by omega) e c; omega
theorem op_is (s : ByteArray) (w : World) : Calls Tryz.prog 37 #[.string s] w fun e w' => e = .returned (.int .i64 (opF s)) ∧ Below w.heap.size w w' := by
  by_cases c : opF s = 0
  · rw [c]; exact op_no s (fun j a b => opF_none c j a b) w
  · obtain ⟨a, b, d⟩ := opF_is c
    exact op_yes (opF s) a b s d (fun j x y => first_no c j x y) w
theorem refop_is (s : ByteArray) (w : World) : Calls Tryz.prog 70 #[.string s] w fun e w' => e = .returned (.int .i64 (opF s)) ∧ Below w.heap.size w w' := by
  by_cases c : opF s = 0
  · rw [c]; exact refOp_no s (fun j a b => opF_none c j a b) w
  · obtain ⟨a, b, d⟩ := opF_is c
    exact refOp_yes (opF s) a b s d (fun j x y => first_no c j x y) w
end Go.Proofs.YtakdhdaoklcidaaGreatDoor

namespace Go.Proofs.YtakdhdaoklcidaaGreatDoor
open Go.RowKit Go.Lib
set_option linter.unusedVariables false
set_option maxRecDepth 100000
theorem unmark_any (l : Bs) (w : World) (hs : l.length ≤ 1000000) : Calls Tryz.prog 36 #[str l] w fun e w' => e = .returned (.tuple #[str (unmark l).1, .bool (unmark l).2.1, .bool (unmark l).2.2]) ∧ w = w' := by
  have S1 : ∀ w, Calls Tryz.prog 69 #[str l, .string ⟨#[46, 97, 113, 114, 108]⟩] w fun e w' => e = .returned (.tuple #[str (trimSuffix l aqrlT), .bool (hasSuffix l aqrlT)]) ∧ w = w' := fun w => sufP l aqrlT w hs
  have S2 : ∀ w, Calls Tryz.prog 69 #[str l, .string ⟨#[46, 97, 113]⟩] w fun e w' => e = .returned (.tuple #[str (trimSuffix l aqT), .bool (hasSuffix l aqT)]) ∧ w = w' := fun w => sufP l aqT w hs
  have S3 : ∀ w, Calls Tryz.prog 69 #[str l, .string ⟨#[46, 114, 108]⟩] w fun e w' => e = .returned (.tuple #[str (trimSuffix l rlT), .bool (hasSuffix l rlT)]) ∧ w = w' := fun w => sufP l rlT w hs
  have H1 := Lib.hid S1
  have H2 := Lib.hid S2
  have H3 := Lib.hid S3
  clear S1 S2 S3 hs
  unfold unmark
  cases h1 : hasSuffix l aqrlT
  · cases h2 : hasSuffix l aqT
    · simp only [Bool.false_eq_true, if_false]
      have G1 := Lib.hid (fun w => h1 ▸ H1.out w)
      have G2 := Lib.hid (fun w => h2 ▸ H2.out w)
      clear h1 h2 H1 H2
      go_enter Tryz.func36, Tryz.ntmps36
      go_wp2_with (fail)
      (with_reducible refine (G1.out _).mono ?_)
      rintro e w1 ⟨rfl, rfl⟩
      go_wp2_with (fail)
      (with_reducible refine (G2.out _).mono ?_)
      rintro e w1 ⟨rfl, rfl⟩
      go_wp2_with (fail)
      (with_reducible refine (H3.out _).mono ?_)
      rintro e w1 ⟨rfl, rfl⟩
      go_wp2
      go_ret3
      exact ⟨rfl, rfl⟩
    · simp only [Bool.false_eq_true, if_false, if_true]
      have G1 := Lib.hid (fun w => h1 ▸ H1.out w)
      have G2 := Lib.hid (fun w => h2 ▸ H2.out w)
      clear h1 h2 H1 H2
      go_enter Tryz.func36, Tryz.ntmps36
      go_wp2_with (fail)
      (with_reducible refine (G1.out _).mono ?_)
      rintro e w1 ⟨rfl, rfl⟩
      go_wp2_with (fail)
      (with_reducible refine (G2.out _).mono ?_)
      rintro e w1 ⟨rfl, rfl⟩
      go_wp2
      go_ret3
      exact ⟨rfl, rfl⟩
  · simp only [if_true]
    have G1 := Lib.hid (fun w => h1 ▸ H1.out w)
    clear h1 H1
    go_enter Tryz.func36, Tryz.ntmps36
    go_wp2_with (fail)
    (with_reducible refine (G1.out _).mono ?_)
    rintro e w1 ⟨rfl, rfl⟩
    go_wp2
    go_ret3
    exact ⟨rfl, rfl⟩
def withOp (i : Ins) (op : Int) : Ins := ⟨op, i.rd, i.a, i.b, i.imm, i.csr, i.aq, i.rl⟩
theorem says1_any (i : Ins) (op : Int) (b : Nat) (q : Bool) (hq : (encE (withOp i op) == 0) = q) (w : World) (he : Env w) (hc : w.cell? ⟨b, 0, none⟩ = some (.int .i64 op)) :
    Calls Tryz.prog 56 #[insV i, .pointer (some ⟨b, 0, none⟩)] w fun e w' => e = .returned (.bool q) ∧ Below w.heap.size w w' := by
  have hE : ∀ w, Env w → Calls Tryz.prog 21 #[insV (withOp i op)] w fun e w' => e = .returned (.tuple #[.int .u32 (encW (withOp i op)), .int .i64 (encE (withOp i op))]) ∧ Below w.heap.size w w' := fun w he => encode_is _ w he.tab
  have HE := Lib.hid hE
  have HV := Lib.hid he
  subst hq
  clear hE he
  obtain ⟨o, rd, a, bb, imm, csr, aq, rl⟩ := i
  unfold withOp at *
  generalize encW (⟨op, rd, a, bb, imm, csr, aq, rl⟩ : Ins) = W at *
  generalize encE (⟨op, rd, a, bb, imm, csr, aq, rl⟩ : Ins) = E at *
  have hb : b < w.heap.size := World.block_lt_of_cell? _ _ hc
  go_enter Tryz.func56, Tryz.ntmps56
  go_wp2_with (fail)
  (with_reducible refine (HE.out _ (HV.out.below ((Below.refl _ _).alloc (Nat.le_refl _) _))).mono ?_)
  rintro e w1 ⟨rfl, hb1⟩
  have HB := Lib.hid (((Below.refl _ _).alloc (Nat.le_refl _) (.cells #[.int .i64 op, .int .i64 rd, .int .i64 a, .int .i64 bb, .int .i64 imm, .int .i64 csr, .bool aq, .bool rl] 23)).trans (hb1.mono (by simp)))
  clear hb1 hc hb
  go_wp2
  go_ret
  exact ⟨rfl, HB.out⟩
abbrev BoxS (w : World) (b : Nat) (l : Bs) : Prop := w.heap[b]? = some (.cells #[str l] 9 (0, 0))
theorem boxS_set {w : World} {b : Nat} {l : Bs} (h : BoxS w b l) (r : Bs) : BoxS (w.setCell ⟨b, 0, none⟩ (str r)) b r := by
  unfold BoxS
  simp [World.setCell, Array.getElem?_modify, h]
theorem boxS_keep {w w' : World} {b : Nat} {l : Bs} (h : BoxS w b l) (hb : Below w.heap.size w w') : BoxS w' b l := (hb.block b (Array.getElem?_eq_some_iff.1 h).1).trans h
theorem next_any (bl : Nat) (rest : Bs) (w : World) (he : Env w) (hs : rest.length ≤ 1000000) (hc : BoxS w bl rest) :
    Calls Tryz.prog 63 #[.pointer (some ⟨bl, 0, none⟩)] w fun e w' => e = .returned (str (cut rest sepC).1) ∧ BoxS w' bl (cut rest sepC).2.1 ∧ Only (fun i => i = bl) w w' := by
  have hE : ∀ w, Env w → Calls Tryz.prog 34 #[str rest, .string ⟨#[44, 32]⟩] w fun e w' => e = .returned (.tuple #[str (cut rest sepC).1, str (cut rest sepC).2.1, .bool (cut rest sepC).2.2]) ∧ Below w.heap.size w w' := fun w he => cutP rest sepC w hs he
  have HE := Lib.hid hE
  have HV := Lib.hid he
  have HC := Lib.hid hc
  clear hE he hs
  have h0 : w.cell? ⟨bl, 0, none⟩ = some (str rest) := by rw [Lib.cell_of_heap hc]; rfl
  clear hc
  generalize (cut rest sepC).1 = o at *
  generalize (cut rest sepC).2.1 = r at *
  generalize (cut rest sepC).2.2 = q at *
  go_enter Tryz.func63, Tryz.ntmps63
  go_wp2_with (fail)
  (with_reducible refine (HE.out _ HV.out).mono ?_)
  rintro e w1 ⟨rfl, hb1⟩
  have HC1 := Lib.hid (boxS_keep HC.out hb1)
  have h1 : w1.cell? ⟨bl, 0, none⟩ = some (str rest) := by rw [Lib.cell_of_heap HC1.out]; rfl
  have h2 : w1.frozen? ⟨bl, 0, none⟩ = false := Lib.frozen_of_heap HC1.out 0
  have HB := Lib.hid hb1
  clear hb1 h0
  go_wp2
  go_ret
  exact ⟨rfl, boxS_set HC1.out r, (Only.of_below (fun i => i = bl) HB.out).setCell (p := ⟨bl, 0, none⟩) (.inl rfl) _⟩
abbrev nextV (bl : Nat) : Value := .func (.func 63) #[] #[.pointer (some ⟨bl, 0, none⟩)]
theorem reg_any (bn bl : Nat) (rest : Bs) (w : World) (he : ∀ w', Only (fun i => i = bl) w w' → Env w') (hs : rest.length ≤ 1000000) (hn : w.cell? ⟨bn, 0, none⟩ = some (nextV bl)) (hc : BoxS w bl rest) :
    Calls Tryz.prog 64 #[.pointer (some ⟨bn, 0, none⟩)] w fun e w' => e = .returned (.int .i64 (regP (cut rest sepC).1)) ∧ BoxS w' bl (cut rest sepC).2.1 ∧ Only (fun i => i = bl) w w' := by
  have HN := Lib.hid (next_any bl rest w (he w (Only.refl _ _)) hs hc)
  have hl : (cut rest sepC).1.length ≤ 1000000 := Nat.le_trans (cut_len rest sepC).1 hs
  have hT : ∀ w, Calls Tryz.prog 66 #[str (cut rest sepC).1, .string ⟨#[120]⟩] w fun e w' => e = .returned (str (trimPrefix (cut rest sepC).1 [120])) ∧ w = w' := fun w => preP _ [120] w
  have hA : ∀ w, Env w → Calls Tryz.prog 65 #[str (trimPrefix (cut rest sepC).1 [120])] w fun e w' => ∃ v, e = .returned (.tuple #[.int .i64 (regP (cut rest sepC).1), v]) ∧ Below w.heap.size w w' := fun w he => atoi_some _ w (Nat.le_trans (trimPrefix_le _ _) hl) he
  have HT := Lib.hid hT
  have HA := Lib.hid hA
  have HE := Lib.hid he
  clear hT hA he hs hl hc
  generalize regP (cut rest sepC).1 = n at *
  generalize trimPrefix (cut rest sepC).1 [120] = t at *
  generalize (cut rest sepC).1 = o at *
  generalize (cut rest sepC).2.1 = r at *
  go_enter Tryz.func64, Tryz.ntmps64
  go_wp2_with (fail)
  (with_reducible refine HN.out.mono ?_)
  rintro e w1 ⟨rfl, hc1, ho1⟩
  have HC := Lib.hid hc1
  have HO := Lib.hid ho1
  clear hc1 ho1
  go_wp2_with (fail)
  (with_reducible refine (HT.out _).mono ?_)
  rintro e w2 ⟨rfl, rfl⟩
  go_wp2_with (fail)
  (with_reducible refine (HA.out _ (HE.out _ HO.out)).mono ?_)
  rintro e w2 ⟨v, rfl, hb2⟩
  have HC2 := Lib.hid (boxS_keep HC.out hb2)
  have HO2 := Lib.hid (HO.out.thenBelow hb2)
  clear hb2
  go_wp2
  go_ret
  exact ⟨rfl, HC2.out, HO2.out⟩
theorem num_any (bn bl : Nat) (rest : Bs) (w : World) (he : ∀ w', Only (fun i => i = bl) w w' → Env w') (hs : rest.length ≤ 1000000) (hn : w.cell? ⟨bn, 0, none⟩ = some (nextV bl)) (hc : BoxS w bl rest) :
    Calls Tryz.prog 67 #[.pointer (some ⟨bn, 0, none⟩)] w fun e w' => e = .returned (.int .i64 (numP (cut rest sepC).1)) ∧ BoxS w' bl (cut rest sepC).2.1 ∧ Only (fun i => i = bl) w w' := by
  have HN := Lib.hid (next_any bl rest w (he w (Only.refl _ _)) hs hc)
  have hl : (cut rest sepC).1.length ≤ 1000000 := Nat.le_trans (cut_len rest sepC).1 hs
  have hA : ∀ w, Env w → Calls Tryz.prog 68 #[str (cut rest sepC).1, .int .i64 10, .int .i64 64] w fun e w' => ∃ v, e = .returned (.tuple #[.int .i64 (numP (cut rest sepC).1), v]) ∧ Below w.heap.size w w' := fun w he => pint_some _ w hl he
  have HA := Lib.hid hA
  have HE := Lib.hid he
  clear hA he hs hl hc
  generalize numP (cut rest sepC).1 = n at *
  generalize (cut rest sepC).1 = o at *
  generalize (cut rest sepC).2.1 = r at *
  go_enter Tryz.func67, Tryz.ntmps67
  go_wp2_with (fail)
  (with_reducible refine HN.out.mono ?_)
  rintro e w1 ⟨rfl, hc1, ho1⟩
  have HC := Lib.hid hc1
  have HO := Lib.hid ho1
  clear hc1 ho1
  go_wp2_with (fail)
  (with_reducible refine (HA.out _ (HE.out _ HO.out)).mono ?_)
  rintro e w2 ⟨v, rfl, hb2⟩
  have HC2 := Lib.hid (boxS_keep HC.out hb2)
  have HO2 := Lib.hid (HO.out.thenBelow hb2)
  clear hb2
  go_wp2
  go_ret
  exact ⟨rfl, HC2.out, HO2.out⟩
theorem reader_any (rest : Bs) (w : World) :
    Calls Tryz.prog 35 #[str rest] w fun e w' => e = .returned (.tuple #[.func (.func 64) #[] #[.pointer (some ⟨w.heap.size + 1, 0, none⟩)], .func (.func 67) #[] #[.pointer (some ⟨w.heap.size + 1, 0, none⟩)]]) ∧ BoxS w' w.heap.size rest ∧ w'.heap[w.heap.size + 1]? = some (.cells #[nextV w.heap.size] 108 (0, 0)) ∧ w.heap.size + 2 = w'.heap.size ∧ Below w.heap.size w w' := by
  go_enter Tryz.func35, Tryz.ntmps35
  go_wp2
  go_ret2
  refine ⟨rfl, ?_, ?_, by simp, ((Below.refl _ _).alloc (Nat.le_refl _) _).alloc (by simp) _⟩
  · show ((w.alloc _).alloc _).heap[w.heap.size]? = _
    rw [Lib.alloc_old _ _ _ (by simp)]; exact heap_alloc_new _ _
  · have := heap_alloc_new (w.alloc (.cells #[str rest] 9)) (.cells #[nextV w.heap.size] 108)
    rw [World.size_alloc] at this
    exact this
end Go.Proofs.YtakdhdaoklcidaaGreatDoor

namespace Go.Proofs.YtakdhdaoklcidaaGreatDoor
open Go.RowKit Go.Lib
set_option linter.unusedVariables false
set_option maxRecDepth 100000
def tryB (k : Nat) (i : Ins) : Bool := rightB (withOp i k)
theorem encE_q (i : Ins) : (encE i == 0) = rightB i := by
  unfold encE
  cases rightB i <;> rfl
theorem fT_out {k : Nat} (h : ¬ (1 ≤ k ∧ k ≤ 113)) : fT k = ⟨0, false, false, false, 0, false, false⟩ := by
  by_cases h0 : k = 0
  · subst h0; rfl
  · have : tabL.length = 114 := by decide +kernel
    have e : tabL.getD k (0, 15) = (0, 15) := by rw [List.getD_eq_getElem?_getD, List.getElem?_eq_none (by omega)]; rfl
    unfold fT frmT
    rw [e]; rfl
theorem try_out {k : Nat} (h : ¬ (1 ≤ k ∧ k ≤ 113)) (i : Ins) : tryB k i = false := by
  unfold tryB rightB withOp
  rw [decide_eq_false (by simp only []; omega)]; rfl
theorem try_iff {k : Nat} (h : 1 ≤ k ∧ k ≤ 113) (i : Ins) : tryB k i = true ↔ Right (fT k) (withOp i k) := by
  constructor
  · intro e
    have := (rightT_of e).2.2.2
    simpa [withOp] using this
  · intro e
    unfold tryB rightB
    have h1 := (right_iff h.1 (by omega) (withOp i k)).2 e
    have h2 : (withOp i (k : Int)).op.toNat = k := by simp [withOp]
    rw [h2, (eqI_iff _ _).2 h1]
    rw [decide_eq_true (show 1 ≤ (withOp i (k : Int)).op ∧ (withOp i (k : Int)).op ≤ 113 by show 1 ≤ (k : Int) ∧ (k : Int) ≤ 113; omega)]; rfl
theorem num0 {f : Nat} (h : f ≤ 9) : (formL f).number ((formL f).word 0) = 0 := by rw [(num_zero f h).2, (num_zero f h).1]
theorem imm_try : ∀ f, f ≤ 9 → ((formL f).number ((formL f).word 2) == 2 || (formL f).number ((formL f).word 4096) == 4096) = (f != 0) := by decide +kernel
theorem try_rd (k : Nat) : tryB k ⟨0, 1, 0, 0, 0, 0, false, false⟩ = (fT k).rd := by
  by_cases h : 1 ≤ k ∧ k ≤ 113
  · have hf := (fT_ok h.1 (show k < 114 by omega)).imm
    have n0 := num0 hf
    rw [Bool.eq_iff_iff, try_iff h]
    constructor
    · intro e
      have := e.nrd
      cases q : (fT k).rd
      · exact absurd (this q) (by show ¬ (1 : Int) = 0; decide)
      · rfl
    · intro e
      exact ⟨(by show (0 : Int) ≤ 1 ∧ (1 : Int) ≤ 31; decide), (by show (0 : Int) ≤ 0 ∧ (0 : Int) ≤ 31; decide), (by show (0 : Int) ≤ 0 ∧ (0 : Int) ≤ 31; decide), (by show (0 : Int) ≤ 0 ∧ (0 : Int) ≤ 4095; decide), (fun q => by rw [e] at q; cases q), (fun _ => rfl), (fun _ => rfl), (fun _ => rfl), (fun _ => ⟨rfl, rfl⟩), n0⟩
  · rw [try_out h, fT_out h]
theorem try_a (k : Nat) : tryB k ⟨0, 0, 1, 0, 0, 0, false, false⟩ = (fT k).a := by
  by_cases h : 1 ≤ k ∧ k ≤ 113
  · have hf := (fT_ok h.1 (show k < 114 by omega)).imm
    have n0 := num0 hf
    rw [Bool.eq_iff_iff, try_iff h]
    constructor
    · intro e
      have := e.na
      cases q : (fT k).a
      · exact absurd (this q) (by show ¬ (1 : Int) = 0; decide)
      · rfl
    · intro e
      exact ⟨(by show (0 : Int) ≤ 0 ∧ (0 : Int) ≤ 31; decide), (by show (0 : Int) ≤ 1 ∧ (1 : Int) ≤ 31; decide), (by show (0 : Int) ≤ 0 ∧ (0 : Int) ≤ 31; decide), (by show (0 : Int) ≤ 0 ∧ (0 : Int) ≤ 4095; decide), (fun _ => rfl), (fun q => by rw [e] at q; cases q), (fun _ => rfl), (fun _ => rfl), (fun _ => ⟨rfl, rfl⟩), n0⟩
  · rw [try_out h, fT_out h]
theorem try_b (k : Nat) : tryB k ⟨0, 0, 0, 1, 0, 0, false, false⟩ = (fT k).b := by
  by_cases h : 1 ≤ k ∧ k ≤ 113
  · have hf := (fT_ok h.1 (show k < 114 by omega)).imm
    have n0 := num0 hf
    rw [Bool.eq_iff_iff, try_iff h]
    constructor
    · intro e
      have := e.nb
      cases q : (fT k).b
      · exact absurd (this q) (by show ¬ (1 : Int) = 0; decide)
      · rfl
    · intro e
      exact ⟨(by show (0 : Int) ≤ 0 ∧ (0 : Int) ≤ 31; decide), (by show (0 : Int) ≤ 0 ∧ (0 : Int) ≤ 31; decide), (by show (0 : Int) ≤ 1 ∧ (1 : Int) ≤ 31; decide), (by show (0 : Int) ≤ 0 ∧ (0 : Int) ≤ 4095; decide), (fun _ => rfl), (fun _ => rfl), (fun q => by rw [e] at q; cases q), (fun _ => rfl), (fun _ => ⟨rfl, rfl⟩), n0⟩
  · rw [try_out h, fT_out h]
theorem try_csr (k : Nat) : tryB k ⟨0, 0, 0, 0, 0, 1, false, false⟩ = (fT k).csr := by
  by_cases h : 1 ≤ k ∧ k ≤ 113
  · have hf := (fT_ok h.1 (show k < 114 by omega)).imm
    have n0 := num0 hf
    rw [Bool.eq_iff_iff, try_iff h]
    constructor
    · intro e
      have := e.ncsr
      cases q : (fT k).csr
      · exact absurd (this q) (by show ¬ (1 : Int) = 0; decide)
      · rfl
    · intro e
      exact ⟨(by show (0 : Int) ≤ 0 ∧ (0 : Int) ≤ 31; decide), (by show (0 : Int) ≤ 0 ∧ (0 : Int) ≤ 31; decide), (by show (0 : Int) ≤ 0 ∧ (0 : Int) ≤ 31; decide), (by show (0 : Int) ≤ 1 ∧ (1 : Int) ≤ 4095; decide), (fun _ => rfl), (fun _ => rfl), (fun _ => rfl), (fun q => by rw [e] at q; cases q), (fun _ => ⟨rfl, rfl⟩), n0⟩
  · rw [try_out h, fT_out h]
theorem try_n {k : Nat} (h : 1 ≤ k ∧ k ≤ 113) (n : Int) : tryB k ⟨0, 0, 0, 0, n, 0, false, false⟩ = ((formL (fT k).imm).number ((formL (fT k).imm).word n) == n) := by
  rw [Bool.eq_iff_iff, try_iff h, beq_iff_eq]
  constructor
  · intro e; exact e.imm
  · intro e
    exact ⟨(by show (0 : Int) ≤ 0 ∧ (0 : Int) ≤ 31; decide), (by show (0 : Int) ≤ 0 ∧ (0 : Int) ≤ 31; decide), (by show (0 : Int) ≤ 0 ∧ (0 : Int) ≤ 31; decide), (by show (0 : Int) ≤ 0 ∧ (0 : Int) ≤ 4095; decide), (fun _ => rfl), (fun _ => rfl), (fun _ => rfl), (fun _ => rfl), (fun _ => ⟨rfl, rfl⟩), e⟩
theorem try_i (k : Nat) : (tryB k ⟨0, 0, 0, 0, 2, 0, false, false⟩ || tryB k ⟨0, 0, 0, 0, 4096, 0, false, false⟩) = ((fT k).imm != 0) := by
  by_cases h : 1 ≤ k ∧ k ≤ 113
  · rw [try_n h, try_n h]
    exact imm_try _ (fT_ok h.1 (show k < 114 by omega)).imm
  · rw [try_out h, try_out h, fT_out h]; rfl
theorem size_said : (Tryz.prog.info? 51).map (·.size) = some 5 := by kernel_rfl
set_option maxHeartbeats 1000000 in
theorem says_at (k : Nat) (q1 q2 q3 q4 q5 q6 : Bool) (w : World) (he : Env w)
    (h1 : tryB k ⟨0, 1, 0, 0, 0, 0, false, false⟩ = q1)
    (h2 : tryB k ⟨0, 0, 1, 0, 0, 0, false, false⟩ = q2)
    (h3 : tryB k ⟨0, 0, 0, 1, 0, 0, false, false⟩ = q3)
    (h4 : tryB k ⟨0, 0, 0, 0, 2, 0, false, false⟩ = q4)
    (h5 : tryB k ⟨0, 0, 0, 0, 4096, 0, false, false⟩ = q5)
    (h6 : tryB k ⟨0, 0, 0, 0, 0, 1, false, false⟩ = q6)
    : Calls Tryz.prog 23 #[.int .i64 k] w fun e w' => e = .returned (.agg #[.bool q1, .bool q2, .bool q3, .bool (q4 || q5), .bool q6]) ∧ Below w.heap.size w w' := by
  have t1 : ∀ wx, Below w.heap.size w wx → wx.cell? ⟨w.heap.size, 0, none⟩ = some (.int .i64 k) → Calls Tryz.prog 56 #[.agg #[.int .i64 0, .int .i64 1, .int .i64 0, .int .i64 0, .int .i64 0, .int .i64 0, .bool false, .bool false], .pointer (some ⟨w.heap.size, 0, none⟩)] wx fun e w' => e = .returned (.bool q1) ∧ Below wx.heap.size wx w' := fun wx hb hc => says1_any ⟨0, 1, 0, 0, 0, 0, false, false⟩ k _ q1 ((encE_q _).trans h1) wx (he.below hb) hc
  have t2 : ∀ wx, Below w.heap.size w wx → wx.cell? ⟨w.heap.size, 0, none⟩ = some (.int .i64 k) → Calls Tryz.prog 56 #[.agg #[.int .i64 0, .int .i64 0, .int .i64 1, .int .i64 0, .int .i64 0, .int .i64 0, .bool false, .bool false], .pointer (some ⟨w.heap.size, 0, none⟩)] wx fun e w' => e = .returned (.bool q2) ∧ Below wx.heap.size wx w' := fun wx hb hc => says1_any ⟨0, 0, 1, 0, 0, 0, false, false⟩ k _ q2 ((encE_q _).trans h2) wx (he.below hb) hc
  have t3 : ∀ wx, Below w.heap.size w wx → wx.cell? ⟨w.heap.size, 0, none⟩ = some (.int .i64 k) → Calls Tryz.prog 56 #[.agg #[.int .i64 0, .int .i64 0, .int .i64 0, .int .i64 1, .int .i64 0, .int .i64 0, .bool false, .bool false], .pointer (some ⟨w.heap.size, 0, none⟩)] wx fun e w' => e = .returned (.bool q3) ∧ Below wx.heap.size wx w' := fun wx hb hc => says1_any ⟨0, 0, 0, 1, 0, 0, false, false⟩ k _ q3 ((encE_q _).trans h3) wx (he.below hb) hc
  have t4 : ∀ wx, Below w.heap.size w wx → wx.cell? ⟨w.heap.size, 0, none⟩ = some (.int .i64 k) → Calls Tryz.prog 56 #[.agg #[.int .i64 0, .int .i64 0, .int .i64 0, .int .i64 0, .int .i64 2, .int .i64 0, .bool false, .bool false], .pointer (some ⟨w.heap.size, 0, none⟩)] wx fun e w' => e = .returned (.bool q4) ∧ Below wx.heap.size wx w' := fun wx hb hc => says1_any ⟨0, 0, 0, 0, 2, 0, false, false⟩ k _ q4 ((encE_q _).trans h4) wx (he.below hb) hc
  have t5 : ∀ wx, Below w.heap.size w wx → wx.cell? ⟨w.heap.size, 0, none⟩ = some (.int .i64 k) → Calls Tryz.prog 56 #[.agg #[.int .i64 0, .int .i64 0, .int .i64 0, .int .i64 0, .int .i64 4096, .int .i64 0, .bool false, .bool false], .pointer (some ⟨w.heap.size, 0, none⟩)] wx fun e w' => e = .returned (.bool q5) ∧ Below wx.heap.size wx w' := fun wx hb hc => says1_any ⟨0, 0, 0, 0, 4096, 0, false, false⟩ k _ q5 ((encE_q _).trans h5) wx (he.below hb) hc
  have t6 : ∀ wx, Below w.heap.size w wx → wx.cell? ⟨w.heap.size, 0, none⟩ = some (.int .i64 k) → Calls Tryz.prog 56 #[.agg #[.int .i64 0, .int .i64 0, .int .i64 0, .int .i64 0, .int .i64 0, .int .i64 1, .bool false, .bool false], .pointer (some ⟨w.heap.size, 0, none⟩)] wx fun e w' => e = .returned (.bool q6) ∧ Below wx.heap.size wx w' := fun wx hb hc => says1_any ⟨0, 0, 0, 0, 0, 1, false, false⟩ k _ q6 ((encE_q _).trans h6) wx (he.below hb) hc
  have T1 := Lib.hid t1
  have T2 := Lib.hid t2
  have T3 := Lib.hid t3
  have T4 := Lib.hid t4
  have T5 := Lib.hid t5
  have T6 := Lib.hid t6
  clear he t1 h1 t2 h2 t3 h3 t4 h4 t5 h5 t6 h6
  go_enter Tryz.func23, Tryz.ntmps23
  go_wp2_with (fail)
  (with_reducible refine (T1.out _ (((Below.refl _ _).alloc (Nat.le_refl _) _).alloc (by simp) _) (by go_simp)).mono ?_)
  rintro e w1 ⟨rfl, hb1⟩
  have hz1 : w.heap.size + 1 < w1.heap.size := (by have := hb1.size; simp at this; omega)
  have HC1 : Hid (w1.cell? ⟨w.heap.size, 0, none⟩ = some (.int .i64 k)) := Lib.hid ((hb1.cell (p := ⟨w.heap.size, 0, none⟩) (by simp <;> omega)).trans (by go_simp))
  have HS1 : Hid (∃ v0 v1 v2 v3 v4, w1.heap[w.heap.size + 1]? = some (.cells #[v0, v1, v2, v3, v4] 51 (0, 0))) := Lib.hid ⟨.bool false, .bool false, .bool false, .bool false, .bool false, (hb1.block (w.heap.size + 1) (by simp <;> omega)).trans (by have := heap_alloc_new (w.alloc (.cells #[.int .i64 k] 3)) (.cells #[.bool false, .bool false, .bool false, .bool false, .bool false] 51); rw [World.size_alloc] at this; exact this)⟩
  have HB1 : Hid (Below w.heap.size w w1) := Lib.hid ((((Below.refl _ _).alloc (Nat.le_refl _) _).alloc (by simp) _).trans (hb1.mono (by simp; omega)))
  clear hb1
  go_wp2_with (fail)
  (with_reducible refine (T2.out _ HB1.out HC1.out).mono ?_)
  rintro e w2 ⟨rfl, hb2⟩
  have HC2 : Hid (w2.cell? ⟨w.heap.size, 0, none⟩ = some (.int .i64 k)) := Lib.hid ((hb2.cell (p := ⟨w.heap.size, 0, none⟩) (by simp; omega)).trans HC1.out)
  have HS2 : Hid (∃ v0 v1 v2 v3 v4, w2.heap[w.heap.size + 1]? = some (.cells #[v0, v1, v2, v3, v4] 51 (0, 0))) := Lib.hid (by obtain ⟨v0, v1, v2, v3, v4, hv⟩ := HS1.out; exact ⟨v0, v1, v2, v3, v4, (hb2.block (w.heap.size + 1) (by omega)).trans hv⟩)
  have hz2 : w.heap.size + 1 < w2.heap.size := (by have := hb2.size; omega)
  have HB2 : Hid (Below w.heap.size w w2) := Lib.hid (HB1.out.trans (hb2.mono (by omega)))
  clear hb2 hz1 HB1 HC1 HS1
  go_wp2_with (fail)
  (with_reducible refine (T3.out _ HB2.out HC2.out).mono ?_)
  rintro e w3 ⟨rfl, hb3⟩
  have HC3 : Hid (w3.cell? ⟨w.heap.size, 0, none⟩ = some (.int .i64 k)) := Lib.hid ((hb3.cell (p := ⟨w.heap.size, 0, none⟩) (by simp; omega)).trans HC2.out)
  have HS3 : Hid (∃ v0 v1 v2 v3 v4, w3.heap[w.heap.size + 1]? = some (.cells #[v0, v1, v2, v3, v4] 51 (0, 0))) := Lib.hid (by obtain ⟨v0, v1, v2, v3, v4, hv⟩ := HS2.out; exact ⟨v0, v1, v2, v3, v4, (hb3.block (w.heap.size + 1) (by omega)).trans hv⟩)
  have hz3 : w.heap.size + 1 < w3.heap.size := (by have := hb3.size; omega)
  have HB3 : Hid (Below w.heap.size w w3) := Lib.hid (HB2.out.trans (hb3.mono (by omega)))
  clear hb3 hz2 HB2 HC2 HS2
  cases q4
  · go_wp2_with (fail)
    (with_reducible refine (T4.out _ HB3.out HC3.out).mono ?_)
    rintro e w4 ⟨rfl, hb4⟩
    have HC4 : Hid (w4.cell? ⟨w.heap.size, 0, none⟩ = some (.int .i64 k)) := Lib.hid ((hb4.cell (p := ⟨w.heap.size, 0, none⟩) (by simp; omega)).trans HC3.out)
    have HS4 : Hid (∃ v0 v1 v2 v3 v4, w4.heap[w.heap.size + 1]? = some (.cells #[v0, v1, v2, v3, v4] 51 (0, 0))) := Lib.hid (by obtain ⟨v0, v1, v2, v3, v4, hv⟩ := HS3.out; exact ⟨v0, v1, v2, v3, v4, (hb4.block (w.heap.size + 1) (by omega)).trans hv⟩)
    have hz4 : w.heap.size + 1 < w4.heap.size := (by have := hb4.size; omega)
    have HB4 : Hid (Below w.heap.size w w4) := Lib.hid (HB3.out.trans (hb4.mono (by omega)))
    clear hb4 hz3 HB3 HC3 HS3
    go_wp2_with (fail)
    (with_reducible refine (T5.out _ HB4.out HC4.out).mono ?_)
    rintro e w5 ⟨rfl, hb5⟩
    have HC5 : Hid (w5.cell? ⟨w.heap.size, 0, none⟩ = some (.int .i64 k)) := Lib.hid ((hb5.cell (p := ⟨w.heap.size, 0, none⟩) (by simp; omega)).trans HC4.out)
    have HS5 : Hid (∃ v0 v1 v2 v3 v4, w5.heap[w.heap.size + 1]? = some (.cells #[v0, v1, v2, v3, v4] 51 (0, 0))) := Lib.hid (by obtain ⟨v0, v1, v2, v3, v4, hv⟩ := HS4.out; exact ⟨v0, v1, v2, v3, v4, (hb5.block (w.heap.size + 1) (by omega)).trans hv⟩)
    have hz5 : w.heap.size + 1 < w5.heap.size := (by have := hb5.size; omega)
    have HB5 : Hid (Below w.heap.size w w5) := Lib.hid (HB4.out.trans (hb5.mono (by omega)))
    clear hb5 hz4 HB4 HC4 HS4
    go_wp2_with (fail)
    (with_reducible refine (T6.out _ HB5.out HC5.out).mono ?_)
    rintro e w6 ⟨rfl, hb6⟩
    have HC6 : Hid (w6.cell? ⟨w.heap.size, 0, none⟩ = some (.int .i64 k)) := Lib.hid ((hb6.cell (p := ⟨w.heap.size, 0, none⟩) (by simp; omega)).trans HC5.out)
    have HS6 : Hid (∃ v0 v1 v2 v3 v4, w6.heap[w.heap.size + 1]? = some (.cells #[v0, v1, v2, v3, v4] 51 (0, 0))) := Lib.hid (by obtain ⟨v0, v1, v2, v3, v4, hv⟩ := HS5.out; exact ⟨v0, v1, v2, v3, v4, (hb6.block (w.heap.size + 1) (by omega)).trans hv⟩)
    have hz6 : w.heap.size + 1 < w6.heap.size := (by have := hb6.size; omega)
    have HB6 : Hid (Below w.heap.size w w6) := Lib.hid (HB5.out.trans (hb6.mono (by omega)))
    clear hb6 hz5 HB5 HC5 HS5
    obtain ⟨v0, v1, v2, v3, v4, hv⟩ := HS6.out
    have HV := Lib.hid hv
    clear hv
    go_wp2_with (refine wpList_store_row rfl _ _ _ rfl (w.heap.size + 1) _ rfl rfl 51 _ HV.out size_said rfl (by simp [Value.oneCell']) ?_)
    exact bodyPost_ret (v := .agg #[.bool q1, .bool q2, .bool q3, .bool q5, .bool q6]) (results_cell_row (show Tryz.f23.results = #[.cell 2 51] by kernel_rfl) _ _ (w.heap.size + 1) 51 _ _ _ rfl (setRow_heap _ _ _ _ _ _ HV.out) Tryz.underlying51 rfl size_said) rfl ⟨rfl, below_setRow HB6.out (by simp) _⟩
  · go_wp2_with (fail)
    (with_reducible refine (T4.out _ HB3.out HC3.out).mono ?_)
    rintro e w4 ⟨rfl, hb4⟩
    have HC4 : Hid (w4.cell? ⟨w.heap.size, 0, none⟩ = some (.int .i64 k)) := Lib.hid ((hb4.cell (p := ⟨w.heap.size, 0, none⟩) (by simp; omega)).trans HC3.out)
    have HS4 : Hid (∃ v0 v1 v2 v3 v4, w4.heap[w.heap.size + 1]? = some (.cells #[v0, v1, v2, v3, v4] 51 (0, 0))) := Lib.hid (by obtain ⟨v0, v1, v2, v3, v4, hv⟩ := HS3.out; exact ⟨v0, v1, v2, v3, v4, (hb4.block (w.heap.size + 1) (by omega)).trans hv⟩)
    have hz4 : w.heap.size + 1 < w4.heap.size := (by have := hb4.size; omega)
    have HB4 : Hid (Below w.heap.size w w4) := Lib.hid (HB3.out.trans (hb4.mono (by omega)))
    clear hb4 hz3 HB3 HC3 HS3
    go_wp2_with (fail)
    (with_reducible refine (T6.out _ HB4.out HC4.out).mono ?_)
    rintro e w6 ⟨rfl, hb6⟩
    have HC6 : Hid (w6.cell? ⟨w.heap.size, 0, none⟩ = some (.int .i64 k)) := Lib.hid ((hb6.cell (p := ⟨w.heap.size, 0, none⟩) (by simp; omega)).trans HC4.out)
    have HS6 : Hid (∃ v0 v1 v2 v3 v4, w6.heap[w.heap.size + 1]? = some (.cells #[v0, v1, v2, v3, v4] 51 (0, 0))) := Lib.hid (by obtain ⟨v0, v1, v2, v3, v4, hv⟩ := HS4.out; exact ⟨v0, v1, v2, v3, v4, (hb6.block (w.heap.size + 1) (by omega)).trans hv⟩)
    have hz6 : w.heap.size + 1 < w6.heap.size := (by have := hb6.size; omega)
    have HB6 : Hid (Below w.heap.size w w6) := Lib.hid (HB4.out.trans (hb6.mono (by omega)))
    clear hb6 hz4 HB4 HC4 HS4
    obtain ⟨v0, v1, v2, v3, v4, hv⟩ := HS6.out
    have HV := Lib.hid hv
    clear hv
    go_wp2_with (refine wpList_store_row rfl _ _ _ rfl (w.heap.size + 1) _ rfl rfl 51 _ HV.out size_said rfl (by simp [Value.oneCell']) ?_)
    exact bodyPost_ret (v := .agg #[.bool q1, .bool q2, .bool q3, .bool true, .bool q6]) (results_cell_row (show Tryz.f23.results = #[.cell 2 51] by kernel_rfl) _ _ (w.heap.size + 1) 51 _ _ _ rfl (setRow_heap _ _ _ _ _ _ HV.out) Tryz.underlying51 rfl size_said) rfl ⟨rfl, below_setRow HB6.out (by simp) _⟩
theorem says_any (k : Nat) (w : World) (he : Env w) : Calls Tryz.prog 23 #[.int .i64 k] w fun e w' => e = .returned (.agg #[.bool (fT k).rd, .bool (fT k).a, .bool (fT k).b, .bool ((fT k).imm != 0), .bool (fT k).csr]) ∧ Below w.heap.size w w' := by
  rw [← try_i]
  exact says_at k _ _ _ _ _ _ w he (try_rd k) (try_a k) (try_b k) rfl rfl (try_csr k)
end Go.Proofs.YtakdhdaoklcidaaGreatDoor

namespace Go.Proofs.YtakdhdaoklcidaaGreatDoor
open Go.RowKit Go.Lib
set_option linter.unusedVariables false
set_option maxRecDepth 100000
theorem bX : Builder.Extra Tryz.prog bstrLays_ren where
  sizeBuilder := by kernel_rfl
  liesBuilder := by kernel_rfl
  t5 := Tryz.underlying5
  a5 := Tryz.isAgg5
  z5 := Tryz.sizeOf5
  v5 := Tryz.zeroValue5
  infoByte := by kernel_rfl
  cellsByte := by kernel_rfl
  sizeByte := by kernel_rfl
  neB5 := by decide
abbrev IsB (B b : Nat) (l : Bs) (w : World) : Prop := Lib.IsBuilderF 103 5 B b (Lib.byteCells l) w
theorem copyCheck_used (b : Nat) (w : World) (h0 : w.cell? ⟨b, 0, none⟩ = some (.pointer (some ⟨b, 0, none⟩))) :
    Calls Tryz.prog 91 #[.pointer (some ⟨b, 0, none⟩)] w fun e w' => e = .returned (.tuple #[]) ∧ w = w' := by
  obtain ⟨j, hj, _⟩ := Option.map_eq_some_iff.1 bX.sizeBuilder
  have hne := Lib.run_neq_ptr_same w ⟨b, 0, none⟩ Tryz.underlying101 hj
  go_enter Tryz.func91, Tryz.ntmps91
  go_wp2
  go_end0
  exact ⟨rfl, rfl⟩
theorem copyCheck_fresh (b : Nat) (w : World) (h0 : w.cell? ⟨b, 0, none⟩ = some (.pointer none)) (hsh : w.shape? b = some (103, 2)) (hfz : w.frozen? ⟨b, 0, none⟩ = false) :
    Calls Tryz.prog 91 #[.pointer (some ⟨b, 0, none⟩)] w fun e w' => e = .returned (.tuple #[]) ∧ w' = w.setCell ⟨b, 0, none⟩ (.pointer (some ⟨b, 0, none⟩)) := by
  obtain ⟨j, hj, hjs⟩ := Option.map_eq_some_iff.1 bX.sizeBuilder
  have c1 := Lib.run_to_unsafe w ⟨b, 0, none⟩ Tryz.underlying101 Tryz.underlying160 hj (by rw [hjs]; decide) hsh (Nat.zero_lt_succ 1)
  have c2 := Lib.run_from_unsafe w ⟨b, 0, none⟩ Tryz.underlying160 Tryz.underlying101 hj hsh bX.liesBuilder
  have c3 : ∀ a w, (callFunc 109 #[a]).run Tryz.prog w = .ok (.value a) w := fun a w => by
    rw [run_callFunc_extern Tryz.func109 (by kernel_rfl) (by kernel_rfl) (by kernel_rfl) (e := Extern.AbiNoEscape.same) (by kernel_rfl), Lib.run_noEscape]
    rfl
  go_enter Tryz.func91, Tryz.ntmps91
  go_wp2
  go_end0
  exact ⟨rfl, rfl⟩
theorem copyCheck_any (B b : Nat) (bs : List Value) (w : World) (h : Lib.IsBuilderF 103 5 B b bs w) :
    Calls Tryz.prog 91 #[.pointer (some ⟨b, 0, none⟩)] w fun e w' => e = .returned (.tuple #[]) ∧ Lib.BuilderAtF 103 5 B b (.pointer (some ⟨b, 0, none⟩)) bs w' ∧ Below B w w' := by
  rcases h with h | h
  · refine (copyCheck_fresh b w h.cell0 h.shape h.frozen0).mono ?_
    rintro e w' ⟨rfl, rfl⟩
    exact ⟨rfl, h.used _, (Below.refl B w).setCell (p := ⟨b, 0, none⟩) h.1 _⟩
  · refine (copyCheck_used b w h.cell0).mono ?_
    rintro e w' ⟨rfl, rfl⟩
    exact ⟨rfl, h, Below.refl B _⟩
set_option maxHeartbeats 2000000 in
theorem ws_any (B b : Nat) (l s : Bs) (w : World) (h : IsB B b l w) (hlen : l.length + s.length ≤ 1000000) (hBw : B ≤ w.heap.size) :
    Calls Tryz.prog 57 #[.pointer (some ⟨b, 0, none⟩), str s] w fun e w' => e = .returned (.tuple #[.int .i64 s.length, .nilIface]) ∧ IsB B b (l ++ s) w' ∧ Below B w w' := by
  obtain ⟨i0, hi, hz0, hz1, hz2⟩ := info_parts bX.infoByte
  have HCC := Lib.hid (copyCheck_any B b (Lib.byteCells l) w h)
  have hss : (⟨s.toArray⟩ : ByteArray).size = s.length := List.size_toArray
  have hcs : Lib.strCells ⟨s.toArray⟩ = Lib.byteCells s := rfl
  have hbl : (Lib.byteCells l).length = l.length := Lib.byteCells_length l
  clear h
  go_enter Tryz.func57, Tryz.ntmps57
  go_wp2_with (fail)
  (with_reducible refine HCC.out.mono ?_)
  rintro e w1 ⟨rfl, h1, hb1⟩
  obtain ⟨hB, v, hbk, hown, hne⟩ := h1
  have c1 : w1.cell? ⟨b, 1, none⟩ = some v := by rw [Lib.cell_of_heap hbk]; rfl
  go_wp2_with (at_builtin; refine Lib.wpList_append_own_stringF _ rfl _ _ 48 9 rfl B 5 i0 Tryz.underlying48 Tryz.underlying9 hi hz0 hz1 hz2 _ _ _ rfl hown ⟨s.toArray⟩ rfl ?c3 ?c4 ?c5 ?_)
  case c3 => unfold maxLen; omega
  case c4 => omega
  case c5 => have := hb1.size; omega
  intro v' w2 hown' hgrow _
  have hlt : b < w1.heap.size := by
    rcases Nat.lt_or_ge b w1.heap.size with h' | h'
    · exact h'
    · simp [Array.getElem?_eq_none h'] at hbk
  have hb2 : w2.heap[b]? = some (.cells #[.pointer (some ⟨b, 0, none⟩), v] 103 (0, 0)) := by
    rw [hgrow.block b hlt (fun e => hne e.symm)]
    exact hbk
  have d1 : w2.cell? ⟨b, 1, none⟩ = some v := by rw [Lib.cell_of_heap hb2]; rfl
  have f1 : w2.frozen? ⟨b, 1, none⟩ = false := Lib.frozen_of_heap hb2 1
  obtain ⟨ao, n', cap, rfl⟩ : ∃ ao n' cap, v' = .slice ao n' cap := by
    rcases hown'.2 with ⟨hv, _⟩ | ⟨g, cap, cur, fz, hv, _⟩
    · exact ⟨_, _, _, hv⟩
    · exact ⟨_, _, _, hv⟩
  have HO := Lib.hid hown'
  have HG := Lib.hid hgrow
  have HB2 := Lib.hid hb2
  have HBL := Lib.hid hb1
  have HW := Lib.hid hown
  clear hown' hgrow hb2 hb1 hown c1 hbk hne
  go_wp2
  go_ret2
  refine ⟨rfl, ?_, ?_⟩
  · exact Or.inr (Lib.BuilderAtF.put (T := 103) (e := 5) hB HB2.out (bs' := Lib.byteCells (l ++ s)) (by rw [Lib.byteCells_append, List.length_append, hbl, Lib.byteCells_length]; exact HO.out) bX.neB5)
  · exact (HBL.out.grown HG.out (by have := HBL.out.size; omega) (fun k hk => (HW.out.lt k hk).1)).setCell (p := ⟨b, 1, none⟩) hB _
def someT (os : List Bs) : List Bs := os.filter fun o => !o.isEmpty
def sepOf (done : List Bs) : Bs := if someT done = [] then [32] else sepC
theorem tail_more (sep : Bs) (os : List Bs) (o : Bs) : tailT sep (os ++ [o]) = tailT sep os ++ (if os = [] then sep else sepC) ++ o := by
  induction os generalizing sep with
  | nil => simp [tailT]
  | cons p os ih =>
    simp only [List.cons_append, tailT, ih]
    cases os <;> simp [tailT]
theorem line_more (name : Bs) (os : List Bs) (o : Bs) (h : o ≠ []) : lineT name (someT (os ++ [o])) = lineT name (someT os) ++ sepOf os ++ o := by
  have e : someT (os ++ [o]) = someT os ++ [o] := by
    unfold someT
    rw [List.filter_append]
    cases o with
    | nil => exact absurd rfl h
    | cons a b => rfl
  unfold lineT
  rw [e, tail_more]
  unfold sepOf
  simp
theorem line_skip (name : Bs) (os : List Bs) : lineT name (someT (os ++ [[]])) = lineT name (someT os) := by
  unfold someT
  rw [List.filter_append]
  simp
theorem sepOf_more (os : List Bs) (o : Bs) (h : o ≠ []) : sepOf (os ++ [o]) = sepC := by
  unfold sepOf someT
  rw [List.filter_append]
  cases o with
  | nil => exact absurd rfl h
  | cons a b => simp
theorem sepOf_skip (os : List Bs) : sepOf (os ++ [[]]) = sepOf os := by
  unfold sepOf someT
  rw [List.filter_append]
  simp
theorem lineT_len (name : Bs) (os : List Bs) : (lineT name os).length ≤ name.length + (os.map fun o => o.length + 2).sum := by
  unfold lineT
  have : ∀ sep : Bs, sep.length ≤ 2 → (tailT sep os).length ≤ (os.map fun o => o.length + 2).sum := by
    induction os with
    | nil => intro sep _; simp [tailT]
    | cons o os ih =>
      intro sep hs
      have := ih sepC (by decide)
      simp [tailT]; omega
  have := this [32] (by decide)
  simp; omega
theorem take_next (os : List Bs) {k : Nat} (h : k < os.length) : os.take (k + 1) = os.take k ++ [os.getD k []] := by
  rw [List.take_succ_eq_append_getElem h, List.getD_eq_getElem?_getD, List.getElem?_eq_getElem h]; rfl
theorem someT_sum (os : List Bs) (k : Nat) : ((someT (os.take k)).map fun o => o.length + 2).sum ≤ (os.map fun o => o.length + 2).sum := by
  have h1 : ∀ l : List Bs, ((someT l).map fun o => o.length + 2).sum ≤ (l.map fun o => o.length + 2).sum := by
    intro l
    induction l with
    | nil => simp [someT]
    | cons o l ih =>
      unfold someT at *
      rw [List.filter_cons]
      split <;> simp <;> omega
  have h2 : ((os.take k).map fun o => o.length + 2).sum ≤ (os.map fun o => o.length + 2).sum := by
    conv => rhs; rw [← List.take_append_drop k os]
    rw [List.map_append, List.sum_append]; omega
  exact Nat.le_trans (h1 _) h2
end Go.Proofs.YtakdhdaoklcidaaGreatDoor

namespace Go.Proofs.YtakdhdaoklcidaaGreatDoor
open Go.RowKit Go.Lib
set_option linter.unusedVariables false
set_option maxRecDepth 100000
set_option maxHeartbeats 2000000 in
theorem writeL (name : Bs) (os : List Bs) (g cap : Nat) (w : World) (hn : os.length ≤ 100) (hlen : name.length + (os.map fun o => o.length + 2).sum ≤ 100000) (hc : ∀ k, k < os.length → w.cell? ⟨g, k, none⟩ = some (str (os.getD k []))) :
    Calls Tryz.prog 24 #[str name, .slice (some ⟨g, 0, none⟩) os.length cap] w fun e w' => e = .returned (str (lineT name (someT os))) ∧ Below w.heap.size w w' := by
  have hF : IsB w.heap.size w.heap.size [] (w.alloc (.cells #[.pointer none, .slice none 0 0] 103)) := Lib.IsBuilderF.of (Lib.fresh_isBuilder 103 5 w)
  have HF := Lib.hid hF
  clear hF
  have HC := Lib.hid hc
  have HL := Lib.hid hlen
  have hnl : name.length ≤ 100000 := by omega
  clear hc hlen
  go_enter Tryz.func24, Tryz.ntmps24
  go_wp2_with (fail)
  (with_reducible refine (ws_any w.heap.size w.heap.size [] name _ HF.out (by simp; omega) (by simp)).mono ?_)
  rintro e w1 ⟨rfl, hb1, hw1⟩
  have HB := Lib.hid hb1
  have HW := Lib.hid (((Below.refl _ _).alloc (Nat.le_refl _) (.cells #[.pointer none, .slice none 0 0] 103)).trans hw1)
  clear hb1 hw1
  go_wp2
  go_loopw [6, 13] (fun s k wr => ∃ j : Nat, j ≤ os.length ∧ k = .int .i64 j ∧ s = str (sepOf (os.take j)) ∧ IsB w.heap.size w.heap.size (lineT name (someT (os.take j))) wr ∧ Below w.heap.size w wr) (fun _ k _ => os.length - (RowKit.intOf k).toNat)
  case atStart => exact ⟨0, Nat.zero_le _, rfl, rfl, by rw [List.take_zero]; simpa [someT, lineT, tailT] using HB.out, HW.out⟩
  case round =>
    obtain ⟨j, hj, rfl, rfl, hb, hw⟩ := hrel
    have HB2 := Lib.hid hb
    have HW2 := Lib.hid hw
    clear hb hw HB HW
    by_cases hlt : j < os.length
    · have hx := HC.out j hlt
      have hxw := cell_stays HW2.out hx
      have hs1 := take_next os hlt
      have hsum := Nat.le_trans (someT_sum os (j + 1)) (Nat.le_refl _)
      have hlin := lineT_len name (someT (os.take (j + 1)))
      have HLJ : Hid ((lineT name (someT (os.take (j + 1)))).length ≤ 100000) := Lib.hid (by have := HL.out; omega)
      have HSZ := Lib.hid HW2.out.size
      clear hsum hlin hx
      by_cases he : os.getD j [] = []
      · have e1 := line_skip name (os.take j)
        have e2 := sepOf_skip (os.take j)
        rw [hs1, he] at HLJ
        have HS : Hid (lineT name (someT (os.take (j + 1))) = lineT name (someT (os.take j)) ∧ sepOf (os.take (j + 1)) = sepOf (os.take j)) := Lib.hid (by rw [hs1, he]; exact ⟨e1, e2⟩)
        rw [he] at hxw
        clear e1 e2 hs1 he HLJ
        generalize sepOf (os.take j) = sp at *
        generalize lineT name (someT (os.take j)) = ln at *
        go_wp2
        go_roundw
        case rel => exact ⟨j + 1, by omega, by go_num, by rw [HS.out.2], by rw [HS.out.1]; exact HB2.out, HW2.out⟩
        case measure => simp [RowKit.intOf]; omega
      · have e1 := line_more name (os.take j) (os.getD j []) he
        have e2 := sepOf_more (os.take j) (os.getD j []) he
        have hz1 : (os.getD j []).isEmpty = false := by cases q : os.getD j [] with | nil => exact absurd q he | cons a b => rfl
        have HS : Hid (lineT name (someT (os.take (j + 1))) = lineT name (someT (os.take j)) ++ sepOf (os.take j) ++ os.getD j [] ∧ sepOf (os.take (j + 1)) = sepC) := Lib.hid (by rw [hs1]; exact ⟨e1, e2⟩)
        clear e1 e2 hs1
        have HLL : Hid ((lineT name (someT (os.take j))).length + (sepOf (os.take j)).length + (os.getD j []).length ≤ 100000) := Lib.hid (by have := HLJ.out; rw [HS.out.1, List.length_append, List.length_append] at this; exact this)
        have hq : ((os.getD j [] : Bs) == ([] : Bs)) = false := by cases q : os.getD j [] with | nil => exact absurd q he | cons a b => rfl
        clear HLJ he
        generalize os.getD j [] = o at *
        generalize sepOf (os.take j) = sp at *
        generalize lineT name (someT (os.take j)) = ln at *
        go_wp2_with (fail)
        (with_reducible refine (ws_any w.heap.size w.heap.size ln sp _ HB2.out (by have := HLL.out; omega) HSZ.out).mono ?_)
        rintro e w2 ⟨rfl, hb2, hw2⟩
        have HB3 := Lib.hid hb2
        have HW3 := Lib.hid (HW2.out.trans hw2)
        have HSZ3 := Lib.hid HW3.out.size
        clear hb2 hw2
        go_wp2_with (fail)
        (with_reducible refine (ws_any w.heap.size w.heap.size (ln ++ sp) o _ HB3.out (by have := HLL.out; rw [List.length_append]; omega) HSZ3.out).mono ?_)
        rintro e w3 ⟨rfl, hb3, hw3⟩
        have HB4 := Lib.hid hb3
        have HW4 := Lib.hid (HW3.out.trans hw3)
        clear hb3 hw3
        go_wp2
        go_roundw
        case rel => exact ⟨j + 1, by omega, by go_num, by rw [HS.out.2]; rfl, by rw [HS.out.1]; exact HB4.out, HW4.out⟩
        case measure => simp [RowKit.intOf]; omega
    · obtain rfl : j = os.length := by omega
      rw [List.take_length] at HB2
      have HSZ := Lib.hid HW2.out.size
      go_wp2_with (fail)
      refine (Any.Builder_String_any_k bstrLays bX w.heap.size w.heap.size (lineT name (someT os)) _ HB2.out HSZ.out).mono ?_
      rintro e w2 ⟨rfl, _, hw2, _⟩
      have HW3 := Lib.hid (HW2.out.trans hw2)
      clear hw2
      go_wp2
      go_ret
      exact ⟨rfl, HW3.out⟩
end Go.Proofs.YtakdhdaoklcidaaGreatDoor

namespace Go.Proofs.YtakdhdaoklcidaaGreatDoor
section
variable {P : Program} {ops : Array Oper} {md : Region.Mode} {Q : Exit → Act → World → Prop} {S : World → Prop}
theorem takeD {i : Nat} {oi : Oper} (d : Option Tmp) {v : Value} {fuel : Nat} {listed : Array Bool} {a : Act} {w : World} (hi : ops[i]? = some oi) (hd : oi.dst = d)
    (hs : Region.noSelect ops = true) (hf : Region.free md ops listed i = true) (hr : (Region.ready md ops listed).contains i = true)
    (hQ : ∀ c a w, Q (.panic c) (a.put d v) w → Q (.panic c) a w) (hw : Region.wanted oi (yielded ops a.tmps) = true) (hS : S w) (hy : ∀ w, S w → (execOp a.eval oi).run P w = .ok (.value v) w)
    (h : wpAnyH P md ops Q S fuel (listed.setIfInBounds i true) (a.put d v) w) : wpAnyH P md ops Q S (fuel + 1) listed a w := by
  subst hd; exact wpAnyH_take hi hs hf hr hQ (.inl ⟨hw, hy⟩) hS h
theorem skipD {i : Nat} {oi : Oper} (d : Option Tmp) {fuel : Nat} {listed : Array Bool} {a : Act} {w : World} (hi : ops[i]? = some oi) (hd : oi.dst = d)
    (hs : Region.noSelect ops = true) (hf : Region.free md ops listed i = true) (hr : (Region.ready md ops listed).contains i = true)
    (hQ : ∀ c a w, Q (.panic c) (a.put d undef) w → Q (.panic c) a w) (hw : Region.wanted oi (yielded ops a.tmps) = false) (hS : S w)
    (h : wpAnyH P md ops Q S fuel (listed.setIfInBounds i true) (a.put d undef) w) : wpAnyH P md ops Q S (fuel + 1) listed a w := by
  subst hd; exact wpAnyH_take hi hs hf hr hQ (.inr ⟨hw, rfl⟩) hS h
end
end Go.Proofs.YtakdhdaoklcidaaGreatDoor
