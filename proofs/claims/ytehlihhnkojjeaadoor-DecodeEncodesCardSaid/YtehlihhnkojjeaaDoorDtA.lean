/- Layer 9: the document's Right: what fails ahead of the form. -/
import Derived.Test.YtehlihhnkojjeaaDoorDn
import Derived.Test.YtehlihhnkojjeaaDoorDsD
import Derived.Deep.RegionHeld3
namespace Go.Proofs.YtehlihhnkojjeaaDoor
open Go.RowKit
set_option linter.unusedVariables false
set_option maxRecDepth 100000

theorem right_op (i : Ins) (h : ¬ (1 ≤ i.op ∧ i.op ≤ 113)) (w : World) :
    Calls Tryd.prog 26 #[.agg #[.int .i64 i.op, .int .i64 i.rd, .int .i64 i.a, .int .i64 i.b, .int .i64 i.imm, .int .i64 i.csr, .bool i.aq, .bool i.rl]] w fun e w' => e = .returned (.bool false) ∧ Below w.heap.size w w' := by
  by_cases h1 : i.op < 1
  · clear h
    go_enter Tryd.func26, Tryd.ntmps26
    go_wp2
    go_ret
    exact ⟨rfl, (Below.refl _ _).alloc (Nat.le_refl _) _⟩
  · have h2 : 113 < i.op := by omega
    clear h
    go_enter Tryd.func26, Tryd.ntmps26
    go_wp2
    go_ret
    exact ⟨rfl, (Below.refl _ _).alloc (Nat.le_refl _) _⟩

set_option maxHeartbeats 1000000 in
theorem right_rd_lo (op : Nat) (h1 : 1 ≤ op) (h2 : op ≤ 113) (i : Ins) (hop : i.op = op) (bad : i.rd < 0) (w : World) :
    Calls Tryd.prog 26 #[.agg #[.int .i64 i.op, .int .i64 i.rd, .int .i64 i.a, .int .i64 i.b, .int .i64 i.imm, .int .i64 i.csr, .bool i.aq, .bool i.rl]] w fun e w' => e = .returned (.bool false) ∧ Below w.heap.size w w' := by
  have HR : Hid (∀ w, Calls Tryd.prog 23 #[.int .i64 i.op] w fun e w' => e = .returned (.agg #[.string (nameT op), .int .u32 (mskT op), .int .u32 (matT op), .int .u8 (letT (frmT op))]) ∧ Below w.heap.size w w') := Lib.hid fun w => by rw [hop]; exact refRow_any op h1 h2 w
  have o1 : ¬ i.op < 1 := by omega
  have o2 : ¬ 113 < i.op := by omega
  clear h1 h2 hop
  generalize nameT op = nm at *
  generalize (mskT op : Int) = mk at *
  generalize (matT op : Int) = mt at *
  generalize (letT (frmT op) : Int) = lt at *
  go_enter Tryd.func26, Tryd.ntmps26
  go_wp2_with (go_at_call 23; (with_reducible refine (HR.out _).mono ?_); rintro e1 w1 ⟨rfl, hb1⟩; have HB1 : Hid (Below w.heap.size w w1) := Lib.hid (((Below.refl _ _).alloc (Nat.le_refl _) _).trans (hb1.mono (by simp))); have hs1 : w.heap.size < w1.heap.size := (by have := hb1.size; simp at this; omega); have HIR : Hid (w1.heap[w.heap.size]? = some (.cells #[.int .i64 i.op, .int .i64 i.rd, .int .i64 i.a, .int .i64 i.b, .int .i64 i.imm, .int .i64 i.csr, .bool i.aq, .bool i.rl] 24 (0, 0))) := Lib.hid ((hb1.block _ (by simp)).trans (heap_alloc_new w _)); have d0 : w1.cell? ⟨w.heap.size, 0, none⟩ = some (.int .i64 i.op) := (by rw [cell_of_row _ _ _ _ _ _ HIR.out]; rfl); have d1 : w1.cell? ⟨w.heap.size, 1, none⟩ = some (.int .i64 i.rd) := (by rw [cell_of_row _ _ _ _ _ _ HIR.out]; rfl); have d2 : w1.cell? ⟨w.heap.size, 2, none⟩ = some (.int .i64 i.a) := (by rw [cell_of_row _ _ _ _ _ _ HIR.out]; rfl); have d3 : w1.cell? ⟨w.heap.size, 3, none⟩ = some (.int .i64 i.b) := (by rw [cell_of_row _ _ _ _ _ _ HIR.out]; rfl); have d4 : w1.cell? ⟨w.heap.size, 4, none⟩ = some (.int .i64 i.imm) := (by rw [cell_of_row _ _ _ _ _ _ HIR.out]; rfl); have d5 : w1.cell? ⟨w.heap.size, 5, none⟩ = some (.int .i64 i.csr) := (by rw [cell_of_row _ _ _ _ _ _ HIR.out]; rfl); have d6 : w1.cell? ⟨w.heap.size, 6, none⟩ = some (.bool i.aq) := (by rw [cell_of_row _ _ _ _ _ _ HIR.out]; rfl); have d7 : w1.cell? ⟨w.heap.size, 7, none⟩ = some (.bool i.rl) := (by rw [cell_of_row _ _ _ _ _ _ HIR.out]; rfl); clear hb1)
  go_ret
  exact ⟨rfl, HB1.out.alloc HB1.out.size _⟩

set_option maxHeartbeats 1000000 in
theorem right_rd_hi (op : Nat) (h1 : 1 ≤ op) (h2 : op ≤ 113) (i : Ins) (hop : i.op = op) (rdl : ¬ i.rd < 0) (bad : 31 < i.rd) (w : World) :
    Calls Tryd.prog 26 #[.agg #[.int .i64 i.op, .int .i64 i.rd, .int .i64 i.a, .int .i64 i.b, .int .i64 i.imm, .int .i64 i.csr, .bool i.aq, .bool i.rl]] w fun e w' => e = .returned (.bool false) ∧ Below w.heap.size w w' := by
  have HR : Hid (∀ w, Calls Tryd.prog 23 #[.int .i64 i.op] w fun e w' => e = .returned (.agg #[.string (nameT op), .int .u32 (mskT op), .int .u32 (matT op), .int .u8 (letT (frmT op))]) ∧ Below w.heap.size w w') := Lib.hid fun w => by rw [hop]; exact refRow_any op h1 h2 w
  have o1 : ¬ i.op < 1 := by omega
  have o2 : ¬ 113 < i.op := by omega
  clear h1 h2 hop
  generalize nameT op = nm at *
  generalize (mskT op : Int) = mk at *
  generalize (matT op : Int) = mt at *
  generalize (letT (frmT op) : Int) = lt at *
  go_enter Tryd.func26, Tryd.ntmps26
  go_wp2_with (go_at_call 23; (with_reducible refine (HR.out _).mono ?_); rintro e1 w1 ⟨rfl, hb1⟩; have HB1 : Hid (Below w.heap.size w w1) := Lib.hid (((Below.refl _ _).alloc (Nat.le_refl _) _).trans (hb1.mono (by simp))); have hs1 : w.heap.size < w1.heap.size := (by have := hb1.size; simp at this; omega); have HIR : Hid (w1.heap[w.heap.size]? = some (.cells #[.int .i64 i.op, .int .i64 i.rd, .int .i64 i.a, .int .i64 i.b, .int .i64 i.imm, .int .i64 i.csr, .bool i.aq, .bool i.rl] 24 (0, 0))) := Lib.hid ((hb1.block _ (by simp)).trans (heap_alloc_new w _)); have d0 : w1.cell? ⟨w.heap.size, 0, none⟩ = some (.int .i64 i.op) := (by rw [cell_of_row _ _ _ _ _ _ HIR.out]; rfl); have d1 : w1.cell? ⟨w.heap.size, 1, none⟩ = some (.int .i64 i.rd) := (by rw [cell_of_row _ _ _ _ _ _ HIR.out]; rfl); have d2 : w1.cell? ⟨w.heap.size, 2, none⟩ = some (.int .i64 i.a) := (by rw [cell_of_row _ _ _ _ _ _ HIR.out]; rfl); have d3 : w1.cell? ⟨w.heap.size, 3, none⟩ = some (.int .i64 i.b) := (by rw [cell_of_row _ _ _ _ _ _ HIR.out]; rfl); have d4 : w1.cell? ⟨w.heap.size, 4, none⟩ = some (.int .i64 i.imm) := (by rw [cell_of_row _ _ _ _ _ _ HIR.out]; rfl); have d5 : w1.cell? ⟨w.heap.size, 5, none⟩ = some (.int .i64 i.csr) := (by rw [cell_of_row _ _ _ _ _ _ HIR.out]; rfl); have d6 : w1.cell? ⟨w.heap.size, 6, none⟩ = some (.bool i.aq) := (by rw [cell_of_row _ _ _ _ _ _ HIR.out]; rfl); have d7 : w1.cell? ⟨w.heap.size, 7, none⟩ = some (.bool i.rl) := (by rw [cell_of_row _ _ _ _ _ _ HIR.out]; rfl); clear hb1)
  go_ret
  exact ⟨rfl, HB1.out.alloc HB1.out.size _⟩

set_option maxHeartbeats 1000000 in
theorem right_a_lo (op : Nat) (h1 : 1 ≤ op) (h2 : op ≤ 113) (i : Ins) (hop : i.op = op) (rdl : ¬ i.rd < 0) (rdh : ¬ 31 < i.rd) (bad : i.a < 0) (w : World) :
    Calls Tryd.prog 26 #[.agg #[.int .i64 i.op, .int .i64 i.rd, .int .i64 i.a, .int .i64 i.b, .int .i64 i.imm, .int .i64 i.csr, .bool i.aq, .bool i.rl]] w fun e w' => e = .returned (.bool false) ∧ Below w.heap.size w w' := by
  have HR : Hid (∀ w, Calls Tryd.prog 23 #[.int .i64 i.op] w fun e w' => e = .returned (.agg #[.string (nameT op), .int .u32 (mskT op), .int .u32 (matT op), .int .u8 (letT (frmT op))]) ∧ Below w.heap.size w w') := Lib.hid fun w => by rw [hop]; exact refRow_any op h1 h2 w
  have o1 : ¬ i.op < 1 := by omega
  have o2 : ¬ 113 < i.op := by omega
  clear h1 h2 hop
  generalize nameT op = nm at *
  generalize (mskT op : Int) = mk at *
  generalize (matT op : Int) = mt at *
  generalize (letT (frmT op) : Int) = lt at *
  go_enter Tryd.func26, Tryd.ntmps26
  go_wp2_with (go_at_call 23; (with_reducible refine (HR.out _).mono ?_); rintro e1 w1 ⟨rfl, hb1⟩; have HB1 : Hid (Below w.heap.size w w1) := Lib.hid (((Below.refl _ _).alloc (Nat.le_refl _) _).trans (hb1.mono (by simp))); have hs1 : w.heap.size < w1.heap.size := (by have := hb1.size; simp at this; omega); have HIR : Hid (w1.heap[w.heap.size]? = some (.cells #[.int .i64 i.op, .int .i64 i.rd, .int .i64 i.a, .int .i64 i.b, .int .i64 i.imm, .int .i64 i.csr, .bool i.aq, .bool i.rl] 24 (0, 0))) := Lib.hid ((hb1.block _ (by simp)).trans (heap_alloc_new w _)); have d0 : w1.cell? ⟨w.heap.size, 0, none⟩ = some (.int .i64 i.op) := (by rw [cell_of_row _ _ _ _ _ _ HIR.out]; rfl); have d1 : w1.cell? ⟨w.heap.size, 1, none⟩ = some (.int .i64 i.rd) := (by rw [cell_of_row _ _ _ _ _ _ HIR.out]; rfl); have d2 : w1.cell? ⟨w.heap.size, 2, none⟩ = some (.int .i64 i.a) := (by rw [cell_of_row _ _ _ _ _ _ HIR.out]; rfl); have d3 : w1.cell? ⟨w.heap.size, 3, none⟩ = some (.int .i64 i.b) := (by rw [cell_of_row _ _ _ _ _ _ HIR.out]; rfl); have d4 : w1.cell? ⟨w.heap.size, 4, none⟩ = some (.int .i64 i.imm) := (by rw [cell_of_row _ _ _ _ _ _ HIR.out]; rfl); have d5 : w1.cell? ⟨w.heap.size, 5, none⟩ = some (.int .i64 i.csr) := (by rw [cell_of_row _ _ _ _ _ _ HIR.out]; rfl); have d6 : w1.cell? ⟨w.heap.size, 6, none⟩ = some (.bool i.aq) := (by rw [cell_of_row _ _ _ _ _ _ HIR.out]; rfl); have d7 : w1.cell? ⟨w.heap.size, 7, none⟩ = some (.bool i.rl) := (by rw [cell_of_row _ _ _ _ _ _ HIR.out]; rfl); clear hb1)
  go_ret
  exact ⟨rfl, HB1.out.alloc HB1.out.size _⟩

set_option maxHeartbeats 1000000 in
theorem right_a_hi (op : Nat) (h1 : 1 ≤ op) (h2 : op ≤ 113) (i : Ins) (hop : i.op = op) (rdl : ¬ i.rd < 0) (rdh : ¬ 31 < i.rd) (al : ¬ i.a < 0) (bad : 31 < i.a) (w : World) :
    Calls Tryd.prog 26 #[.agg #[.int .i64 i.op, .int .i64 i.rd, .int .i64 i.a, .int .i64 i.b, .int .i64 i.imm, .int .i64 i.csr, .bool i.aq, .bool i.rl]] w fun e w' => e = .returned (.bool false) ∧ Below w.heap.size w w' := by
  have HR : Hid (∀ w, Calls Tryd.prog 23 #[.int .i64 i.op] w fun e w' => e = .returned (.agg #[.string (nameT op), .int .u32 (mskT op), .int .u32 (matT op), .int .u8 (letT (frmT op))]) ∧ Below w.heap.size w w') := Lib.hid fun w => by rw [hop]; exact refRow_any op h1 h2 w
  have o1 : ¬ i.op < 1 := by omega
  have o2 : ¬ 113 < i.op := by omega
  clear h1 h2 hop
  generalize nameT op = nm at *
  generalize (mskT op : Int) = mk at *
  generalize (matT op : Int) = mt at *
  generalize (letT (frmT op) : Int) = lt at *
  go_enter Tryd.func26, Tryd.ntmps26
  go_wp2_with (go_at_call 23; (with_reducible refine (HR.out _).mono ?_); rintro e1 w1 ⟨rfl, hb1⟩; have HB1 : Hid (Below w.heap.size w w1) := Lib.hid (((Below.refl _ _).alloc (Nat.le_refl _) _).trans (hb1.mono (by simp))); have hs1 : w.heap.size < w1.heap.size := (by have := hb1.size; simp at this; omega); have HIR : Hid (w1.heap[w.heap.size]? = some (.cells #[.int .i64 i.op, .int .i64 i.rd, .int .i64 i.a, .int .i64 i.b, .int .i64 i.imm, .int .i64 i.csr, .bool i.aq, .bool i.rl] 24 (0, 0))) := Lib.hid ((hb1.block _ (by simp)).trans (heap_alloc_new w _)); have d0 : w1.cell? ⟨w.heap.size, 0, none⟩ = some (.int .i64 i.op) := (by rw [cell_of_row _ _ _ _ _ _ HIR.out]; rfl); have d1 : w1.cell? ⟨w.heap.size, 1, none⟩ = some (.int .i64 i.rd) := (by rw [cell_of_row _ _ _ _ _ _ HIR.out]; rfl); have d2 : w1.cell? ⟨w.heap.size, 2, none⟩ = some (.int .i64 i.a) := (by rw [cell_of_row _ _ _ _ _ _ HIR.out]; rfl); have d3 : w1.cell? ⟨w.heap.size, 3, none⟩ = some (.int .i64 i.b) := (by rw [cell_of_row _ _ _ _ _ _ HIR.out]; rfl); have d4 : w1.cell? ⟨w.heap.size, 4, none⟩ = some (.int .i64 i.imm) := (by rw [cell_of_row _ _ _ _ _ _ HIR.out]; rfl); have d5 : w1.cell? ⟨w.heap.size, 5, none⟩ = some (.int .i64 i.csr) := (by rw [cell_of_row _ _ _ _ _ _ HIR.out]; rfl); have d6 : w1.cell? ⟨w.heap.size, 6, none⟩ = some (.bool i.aq) := (by rw [cell_of_row _ _ _ _ _ _ HIR.out]; rfl); have d7 : w1.cell? ⟨w.heap.size, 7, none⟩ = some (.bool i.rl) := (by rw [cell_of_row _ _ _ _ _ _ HIR.out]; rfl); clear hb1)
  go_ret
  exact ⟨rfl, HB1.out.alloc HB1.out.size _⟩

set_option maxHeartbeats 1000000 in
theorem right_b_lo (op : Nat) (h1 : 1 ≤ op) (h2 : op ≤ 113) (i : Ins) (hop : i.op = op) (rdl : ¬ i.rd < 0) (rdh : ¬ 31 < i.rd) (al : ¬ i.a < 0) (ah : ¬ 31 < i.a) (bad : i.b < 0) (w : World) :
    Calls Tryd.prog 26 #[.agg #[.int .i64 i.op, .int .i64 i.rd, .int .i64 i.a, .int .i64 i.b, .int .i64 i.imm, .int .i64 i.csr, .bool i.aq, .bool i.rl]] w fun e w' => e = .returned (.bool false) ∧ Below w.heap.size w w' := by
  have HR : Hid (∀ w, Calls Tryd.prog 23 #[.int .i64 i.op] w fun e w' => e = .returned (.agg #[.string (nameT op), .int .u32 (mskT op), .int .u32 (matT op), .int .u8 (letT (frmT op))]) ∧ Below w.heap.size w w') := Lib.hid fun w => by rw [hop]; exact refRow_any op h1 h2 w
  have o1 : ¬ i.op < 1 := by omega
  have o2 : ¬ 113 < i.op := by omega
  clear h1 h2 hop
  generalize nameT op = nm at *
  generalize (mskT op : Int) = mk at *
  generalize (matT op : Int) = mt at *
  generalize (letT (frmT op) : Int) = lt at *
  go_enter Tryd.func26, Tryd.ntmps26
  go_wp2_with (go_at_call 23; (with_reducible refine (HR.out _).mono ?_); rintro e1 w1 ⟨rfl, hb1⟩; have HB1 : Hid (Below w.heap.size w w1) := Lib.hid (((Below.refl _ _).alloc (Nat.le_refl _) _).trans (hb1.mono (by simp))); have hs1 : w.heap.size < w1.heap.size := (by have := hb1.size; simp at this; omega); have HIR : Hid (w1.heap[w.heap.size]? = some (.cells #[.int .i64 i.op, .int .i64 i.rd, .int .i64 i.a, .int .i64 i.b, .int .i64 i.imm, .int .i64 i.csr, .bool i.aq, .bool i.rl] 24 (0, 0))) := Lib.hid ((hb1.block _ (by simp)).trans (heap_alloc_new w _)); have d0 : w1.cell? ⟨w.heap.size, 0, none⟩ = some (.int .i64 i.op) := (by rw [cell_of_row _ _ _ _ _ _ HIR.out]; rfl); have d1 : w1.cell? ⟨w.heap.size, 1, none⟩ = some (.int .i64 i.rd) := (by rw [cell_of_row _ _ _ _ _ _ HIR.out]; rfl); have d2 : w1.cell? ⟨w.heap.size, 2, none⟩ = some (.int .i64 i.a) := (by rw [cell_of_row _ _ _ _ _ _ HIR.out]; rfl); have d3 : w1.cell? ⟨w.heap.size, 3, none⟩ = some (.int .i64 i.b) := (by rw [cell_of_row _ _ _ _ _ _ HIR.out]; rfl); have d4 : w1.cell? ⟨w.heap.size, 4, none⟩ = some (.int .i64 i.imm) := (by rw [cell_of_row _ _ _ _ _ _ HIR.out]; rfl); have d5 : w1.cell? ⟨w.heap.size, 5, none⟩ = some (.int .i64 i.csr) := (by rw [cell_of_row _ _ _ _ _ _ HIR.out]; rfl); have d6 : w1.cell? ⟨w.heap.size, 6, none⟩ = some (.bool i.aq) := (by rw [cell_of_row _ _ _ _ _ _ HIR.out]; rfl); have d7 : w1.cell? ⟨w.heap.size, 7, none⟩ = some (.bool i.rl) := (by rw [cell_of_row _ _ _ _ _ _ HIR.out]; rfl); clear hb1)
  go_ret
  exact ⟨rfl, HB1.out.alloc HB1.out.size _⟩

set_option maxHeartbeats 1000000 in
theorem right_b_hi (op : Nat) (h1 : 1 ≤ op) (h2 : op ≤ 113) (i : Ins) (hop : i.op = op) (rdl : ¬ i.rd < 0) (rdh : ¬ 31 < i.rd) (al : ¬ i.a < 0) (ah : ¬ 31 < i.a) (bl : ¬ i.b < 0) (bad : 31 < i.b) (w : World) :
    Calls Tryd.prog 26 #[.agg #[.int .i64 i.op, .int .i64 i.rd, .int .i64 i.a, .int .i64 i.b, .int .i64 i.imm, .int .i64 i.csr, .bool i.aq, .bool i.rl]] w fun e w' => e = .returned (.bool false) ∧ Below w.heap.size w w' := by
  have HR : Hid (∀ w, Calls Tryd.prog 23 #[.int .i64 i.op] w fun e w' => e = .returned (.agg #[.string (nameT op), .int .u32 (mskT op), .int .u32 (matT op), .int .u8 (letT (frmT op))]) ∧ Below w.heap.size w w') := Lib.hid fun w => by rw [hop]; exact refRow_any op h1 h2 w
  have o1 : ¬ i.op < 1 := by omega
  have o2 : ¬ 113 < i.op := by omega
  clear h1 h2 hop
  generalize nameT op = nm at *
  generalize (mskT op : Int) = mk at *
  generalize (matT op : Int) = mt at *
  generalize (letT (frmT op) : Int) = lt at *
  go_enter Tryd.func26, Tryd.ntmps26
  go_wp2_with (go_at_call 23; (with_reducible refine (HR.out _).mono ?_); rintro e1 w1 ⟨rfl, hb1⟩; have HB1 : Hid (Below w.heap.size w w1) := Lib.hid (((Below.refl _ _).alloc (Nat.le_refl _) _).trans (hb1.mono (by simp))); have hs1 : w.heap.size < w1.heap.size := (by have := hb1.size; simp at this; omega); have HIR : Hid (w1.heap[w.heap.size]? = some (.cells #[.int .i64 i.op, .int .i64 i.rd, .int .i64 i.a, .int .i64 i.b, .int .i64 i.imm, .int .i64 i.csr, .bool i.aq, .bool i.rl] 24 (0, 0))) := Lib.hid ((hb1.block _ (by simp)).trans (heap_alloc_new w _)); have d0 : w1.cell? ⟨w.heap.size, 0, none⟩ = some (.int .i64 i.op) := (by rw [cell_of_row _ _ _ _ _ _ HIR.out]; rfl); have d1 : w1.cell? ⟨w.heap.size, 1, none⟩ = some (.int .i64 i.rd) := (by rw [cell_of_row _ _ _ _ _ _ HIR.out]; rfl); have d2 : w1.cell? ⟨w.heap.size, 2, none⟩ = some (.int .i64 i.a) := (by rw [cell_of_row _ _ _ _ _ _ HIR.out]; rfl); have d3 : w1.cell? ⟨w.heap.size, 3, none⟩ = some (.int .i64 i.b) := (by rw [cell_of_row _ _ _ _ _ _ HIR.out]; rfl); have d4 : w1.cell? ⟨w.heap.size, 4, none⟩ = some (.int .i64 i.imm) := (by rw [cell_of_row _ _ _ _ _ _ HIR.out]; rfl); have d5 : w1.cell? ⟨w.heap.size, 5, none⟩ = some (.int .i64 i.csr) := (by rw [cell_of_row _ _ _ _ _ _ HIR.out]; rfl); have d6 : w1.cell? ⟨w.heap.size, 6, none⟩ = some (.bool i.aq) := (by rw [cell_of_row _ _ _ _ _ _ HIR.out]; rfl); have d7 : w1.cell? ⟨w.heap.size, 7, none⟩ = some (.bool i.rl) := (by rw [cell_of_row _ _ _ _ _ _ HIR.out]; rfl); clear hb1)
  go_ret
  exact ⟨rfl, HB1.out.alloc HB1.out.size _⟩

set_option maxHeartbeats 1000000 in
theorem right_csr_lo (op : Nat) (h1 : 1 ≤ op) (h2 : op ≤ 113) (i : Ins) (hop : i.op = op) (rdl : ¬ i.rd < 0) (rdh : ¬ 31 < i.rd) (al : ¬ i.a < 0) (ah : ¬ 31 < i.a) (bl : ¬ i.b < 0) (bh : ¬ 31 < i.b) (bad : i.csr < 0) (w : World) :
    Calls Tryd.prog 26 #[.agg #[.int .i64 i.op, .int .i64 i.rd, .int .i64 i.a, .int .i64 i.b, .int .i64 i.imm, .int .i64 i.csr, .bool i.aq, .bool i.rl]] w fun e w' => e = .returned (.bool false) ∧ Below w.heap.size w w' := by
  have HR : Hid (∀ w, Calls Tryd.prog 23 #[.int .i64 i.op] w fun e w' => e = .returned (.agg #[.string (nameT op), .int .u32 (mskT op), .int .u32 (matT op), .int .u8 (letT (frmT op))]) ∧ Below w.heap.size w w') := Lib.hid fun w => by rw [hop]; exact refRow_any op h1 h2 w
  have o1 : ¬ i.op < 1 := by omega
  have o2 : ¬ 113 < i.op := by omega
  clear h1 h2 hop
  generalize nameT op = nm at *
  generalize (mskT op : Int) = mk at *
  generalize (matT op : Int) = mt at *
  generalize (letT (frmT op) : Int) = lt at *
  go_enter Tryd.func26, Tryd.ntmps26
  go_wp2_with (go_at_call 23; (with_reducible refine (HR.out _).mono ?_); rintro e1 w1 ⟨rfl, hb1⟩; have HB1 : Hid (Below w.heap.size w w1) := Lib.hid (((Below.refl _ _).alloc (Nat.le_refl _) _).trans (hb1.mono (by simp))); have hs1 : w.heap.size < w1.heap.size := (by have := hb1.size; simp at this; omega); have HIR : Hid (w1.heap[w.heap.size]? = some (.cells #[.int .i64 i.op, .int .i64 i.rd, .int .i64 i.a, .int .i64 i.b, .int .i64 i.imm, .int .i64 i.csr, .bool i.aq, .bool i.rl] 24 (0, 0))) := Lib.hid ((hb1.block _ (by simp)).trans (heap_alloc_new w _)); have d0 : w1.cell? ⟨w.heap.size, 0, none⟩ = some (.int .i64 i.op) := (by rw [cell_of_row _ _ _ _ _ _ HIR.out]; rfl); have d1 : w1.cell? ⟨w.heap.size, 1, none⟩ = some (.int .i64 i.rd) := (by rw [cell_of_row _ _ _ _ _ _ HIR.out]; rfl); have d2 : w1.cell? ⟨w.heap.size, 2, none⟩ = some (.int .i64 i.a) := (by rw [cell_of_row _ _ _ _ _ _ HIR.out]; rfl); have d3 : w1.cell? ⟨w.heap.size, 3, none⟩ = some (.int .i64 i.b) := (by rw [cell_of_row _ _ _ _ _ _ HIR.out]; rfl); have d4 : w1.cell? ⟨w.heap.size, 4, none⟩ = some (.int .i64 i.imm) := (by rw [cell_of_row _ _ _ _ _ _ HIR.out]; rfl); have d5 : w1.cell? ⟨w.heap.size, 5, none⟩ = some (.int .i64 i.csr) := (by rw [cell_of_row _ _ _ _ _ _ HIR.out]; rfl); have d6 : w1.cell? ⟨w.heap.size, 6, none⟩ = some (.bool i.aq) := (by rw [cell_of_row _ _ _ _ _ _ HIR.out]; rfl); have d7 : w1.cell? ⟨w.heap.size, 7, none⟩ = some (.bool i.rl) := (by rw [cell_of_row _ _ _ _ _ _ HIR.out]; rfl); clear hb1)
  go_ret
  exact ⟨rfl, HB1.out.alloc HB1.out.size _⟩

set_option maxHeartbeats 1000000 in
theorem right_csr_hi (op : Nat) (h1 : 1 ≤ op) (h2 : op ≤ 113) (i : Ins) (hop : i.op = op) (rdl : ¬ i.rd < 0) (rdh : ¬ 31 < i.rd) (al : ¬ i.a < 0) (ah : ¬ 31 < i.a) (bl : ¬ i.b < 0) (bh : ¬ 31 < i.b) (csrl : ¬ i.csr < 0) (bad : 4095 < i.csr) (w : World) :
    Calls Tryd.prog 26 #[.agg #[.int .i64 i.op, .int .i64 i.rd, .int .i64 i.a, .int .i64 i.b, .int .i64 i.imm, .int .i64 i.csr, .bool i.aq, .bool i.rl]] w fun e w' => e = .returned (.bool false) ∧ Below w.heap.size w w' := by
  have HR : Hid (∀ w, Calls Tryd.prog 23 #[.int .i64 i.op] w fun e w' => e = .returned (.agg #[.string (nameT op), .int .u32 (mskT op), .int .u32 (matT op), .int .u8 (letT (frmT op))]) ∧ Below w.heap.size w w') := Lib.hid fun w => by rw [hop]; exact refRow_any op h1 h2 w
  have o1 : ¬ i.op < 1 := by omega
  have o2 : ¬ 113 < i.op := by omega
  clear h1 h2 hop
  generalize nameT op = nm at *
  generalize (mskT op : Int) = mk at *
  generalize (matT op : Int) = mt at *
  generalize (letT (frmT op) : Int) = lt at *
  go_enter Tryd.func26, Tryd.ntmps26
  go_wp2_with (go_at_call 23; (with_reducible refine (HR.out _).mono ?_); rintro e1 w1 ⟨rfl, hb1⟩; have HB1 : Hid (Below w.heap.size w w1) := Lib.hid (((Below.refl _ _).alloc (Nat.le_refl _) _).trans (hb1.mono (by simp))); have hs1 : w.heap.size < w1.heap.size := (by have := hb1.size; simp at this; omega); have HIR : Hid (w1.heap[w.heap.size]? = some (.cells #[.int .i64 i.op, .int .i64 i.rd, .int .i64 i.a, .int .i64 i.b, .int .i64 i.imm, .int .i64 i.csr, .bool i.aq, .bool i.rl] 24 (0, 0))) := Lib.hid ((hb1.block _ (by simp)).trans (heap_alloc_new w _)); have d0 : w1.cell? ⟨w.heap.size, 0, none⟩ = some (.int .i64 i.op) := (by rw [cell_of_row _ _ _ _ _ _ HIR.out]; rfl); have d1 : w1.cell? ⟨w.heap.size, 1, none⟩ = some (.int .i64 i.rd) := (by rw [cell_of_row _ _ _ _ _ _ HIR.out]; rfl); have d2 : w1.cell? ⟨w.heap.size, 2, none⟩ = some (.int .i64 i.a) := (by rw [cell_of_row _ _ _ _ _ _ HIR.out]; rfl); have d3 : w1.cell? ⟨w.heap.size, 3, none⟩ = some (.int .i64 i.b) := (by rw [cell_of_row _ _ _ _ _ _ HIR.out]; rfl); have d4 : w1.cell? ⟨w.heap.size, 4, none⟩ = some (.int .i64 i.imm) := (by rw [cell_of_row _ _ _ _ _ _ HIR.out]; rfl); have d5 : w1.cell? ⟨w.heap.size, 5, none⟩ = some (.int .i64 i.csr) := (by rw [cell_of_row _ _ _ _ _ _ HIR.out]; rfl); have d6 : w1.cell? ⟨w.heap.size, 6, none⟩ = some (.bool i.aq) := (by rw [cell_of_row _ _ _ _ _ _ HIR.out]; rfl); have d7 : w1.cell? ⟨w.heap.size, 7, none⟩ = some (.bool i.rl) := (by rw [cell_of_row _ _ _ _ _ _ HIR.out]; rfl); clear hb1)
  go_ret
  exact ⟨rfl, HB1.out.alloc HB1.out.size _⟩

theorem refFits_form (k : Nat) (hk : 1 ≤ k ∧ k ≤ 9) (n : Int) (w : World) :
    Calls Tryd.prog 44 #[.int .i64 k, .int .i64 n] w fun e w' => e = .returned (.bool ((formL k).number ((formL k).word n) == n)) ∧ Below w.heap.size w w' := by
  have c := form_cond k hk
  have h := formOk k hk
  rw [h.fits (form_len k hk), form_sg k hk]
  exact refFits_any k hk (formP k) rfl c.1 c.2.1 c.2.2 n w

end Go.Proofs.YtehlihhnkojjeaaDoor
