/- Joined: DtB -/
import Derived.Test.YtakdhdaoklcidaaGreatDoorKQ5
import Derived.Deep.RegionHeld3
namespace Go.Proofs.YtakdhdaoklcidaaGreatDoor
open Go.RowKit
set_option linter.unusedVariables false
set_option maxRecDepth 100000

set_option maxHeartbeats 2000000 in
theorem right_0_a (op : Nat) (h1 : 1 ≤ op) (h2 : op ≤ 113) (hk : frmT op = 0) (i : Ins) (hop : i.op = op) (rdl : ¬ i.rd < 0) (rdh : ¬ 31 < i.rd) (al : ¬ i.a < 0) (ah : ¬ 31 < i.a) (bl : ¬ i.b < 0) (bh : ¬ 31 < i.b) (csrl : ¬ i.csr < 0) (csrh : ¬ 4095 < i.csr) (za : (i.a != 0) = true) (w : World) :
    Calls Tryz.prog 30 #[.agg #[.int .i64 i.op, .int .i64 i.rd, .int .i64 i.a, .int .i64 i.b, .int .i64 i.imm, .int .i64 i.csr, .bool i.aq, .bool i.rl]] w fun e w' => e = .returned (.bool (false)) ∧ Below w.heap.size w w' := by
  have HR : Hid (∀ w, Calls Tryz.prog 31 #[.int .i64 i.op] w fun e w' => e = .returned (.agg #[.string (nameT op), .int .u32 (mskT op), .int .u32 (matT op), .int .u8 85]) ∧ Below w.heap.size w w') := Lib.hid fun w => by rw [hop]; have h := refRow_any op h1 h2 w; rw [hk] at h; exact h
  have Hrd : Hid (∀ w, Calls Tryz.prog 61 #[.int .u8 85, .string ⟨#[85, 74, 73, 72, 87, 82, 76, 65, 67, 90, 86]⟩] w fun e w' => e = .returned (.bool true) ∧ w = w') := Lib.hid fun w => has_rd 0 (by omega) w
  have Ha : Hid (∀ w, Calls Tryz.prog 61 #[.int .u8 85, .string ⟨#[73, 72, 87, 66, 83, 70, 82, 76, 65, 67, 86]⟩] w fun e w' => e = .returned (.bool false) ∧ w = w') := Lib.hid fun w => has_a 0 (by omega) w
  have Hb : Hid (∀ w, Calls Tryz.prog 61 #[.int .u8 85, .string ⟨#[66, 83, 70, 82, 65]⟩] w fun e w' => e = .returned (.bool false) ∧ w = w') := Lib.hid fun w => has_b 0 (by omega) w
  have Hcsr : Hid (∀ w, Calls Tryz.prog 61 #[.int .u8 85, .string ⟨#[67, 90]⟩] w fun e w' => e = .returned (.bool false) ∧ w = w') := Lib.hid fun w => has_csr 0 (by omega) w
  have Hord : Hid (∀ w, Calls Tryz.prog 61 #[.int .u8 85, .string ⟨#[76, 65]⟩] w fun e w' => e = .returned (.bool false) ∧ w = w') := Lib.hid fun w => has_ord 0 (by omega) w
  have o1 : ¬ i.op < 1 := by omega
  have o2 : ¬ 113 < i.op := by omega
  clear h1 h2 hop hk
  generalize nameT op = nm at *
  generalize (mskT op : Int) = mk at *
  generalize (matT op : Int) = mt at *
  go_enter Tryz.func30, Tryz.ntmps30
  go_wp2_with (first
    | (go_at_call 31; (with_reducible refine (HR.out _).mono ?_); rintro e1 w1 ⟨rfl, hb1⟩; have HB1 : Hid (Below w.heap.size w w1) := Lib.hid (((Below.refl _ _).alloc (Nat.le_refl _) _).trans (hb1.mono (by simp))); have hs1 : w.heap.size < w1.heap.size := (by have := hb1.size; simp at this; omega); have HIR : Hid (w1.heap[w.heap.size]? = some (.cells #[.int .i64 i.op, .int .i64 i.rd, .int .i64 i.a, .int .i64 i.b, .int .i64 i.imm, .int .i64 i.csr, .bool i.aq, .bool i.rl] 23 (0, 0))) := Lib.hid ((hb1.block _ (by simp)).trans (heap_alloc_new w _)); have d0 : w1.cell? ⟨w.heap.size, 0, none⟩ = some (.int .i64 i.op) := (by rw [cell_of_row _ _ _ _ _ _ HIR.out]; rfl); have d1 : w1.cell? ⟨w.heap.size, 1, none⟩ = some (.int .i64 i.rd) := (by rw [cell_of_row _ _ _ _ _ _ HIR.out]; rfl); have d2 : w1.cell? ⟨w.heap.size, 2, none⟩ = some (.int .i64 i.a) := (by rw [cell_of_row _ _ _ _ _ _ HIR.out]; rfl); have d3 : w1.cell? ⟨w.heap.size, 3, none⟩ = some (.int .i64 i.b) := (by rw [cell_of_row _ _ _ _ _ _ HIR.out]; rfl); have d4 : w1.cell? ⟨w.heap.size, 4, none⟩ = some (.int .i64 i.imm) := (by rw [cell_of_row _ _ _ _ _ _ HIR.out]; rfl); have d5 : w1.cell? ⟨w.heap.size, 5, none⟩ = some (.int .i64 i.csr) := (by rw [cell_of_row _ _ _ _ _ _ HIR.out]; rfl); have d6 : w1.cell? ⟨w.heap.size, 6, none⟩ = some (.bool i.aq) := (by rw [cell_of_row _ _ _ _ _ _ HIR.out]; rfl); have d7 : w1.cell? ⟨w.heap.size, 7, none⟩ = some (.bool i.rl) := (by rw [cell_of_row _ _ _ _ _ _ HIR.out]; rfl); clear hb1)
    | (go_at_call 61; (with_reducible refine (Hrd.out _).mono ?_); rintro e w3 ⟨rfl, rfl⟩)
    | (go_at_call 61; (with_reducible refine (Ha.out _).mono ?_); rintro e w3 ⟨rfl, rfl⟩)
    | (go_at_call 61; (with_reducible refine (Hb.out _).mono ?_); rintro e w3 ⟨rfl, rfl⟩)
    | (go_at_call 61; (with_reducible refine (Hcsr.out _).mono ?_); rintro e w3 ⟨rfl, rfl⟩)
    | (go_at_call 61; (with_reducible refine (Hord.out _).mono ?_); rintro e w3 ⟨rfl, rfl⟩)
    | (go_at_call 50; (with_reducible refine (refForm_0 _).mono ?_); rintro e w3 ⟨rfl, rfl⟩))
  go_ret
  exact ⟨rfl, HB1.out.alloc HB1.out.size _⟩

set_option maxHeartbeats 2000000 in
theorem right_0_b (op : Nat) (h1 : 1 ≤ op) (h2 : op ≤ 113) (hk : frmT op = 0) (i : Ins) (hop : i.op = op) (rdl : ¬ i.rd < 0) (rdh : ¬ 31 < i.rd) (al : ¬ i.a < 0) (ah : ¬ 31 < i.a) (bl : ¬ i.b < 0) (bh : ¬ 31 < i.b) (csrl : ¬ i.csr < 0) (csrh : ¬ 4095 < i.csr) (za : (i.a != 0) = false) (zb : (i.b != 0) = true) (w : World) :
    Calls Tryz.prog 30 #[.agg #[.int .i64 i.op, .int .i64 i.rd, .int .i64 i.a, .int .i64 i.b, .int .i64 i.imm, .int .i64 i.csr, .bool i.aq, .bool i.rl]] w fun e w' => e = .returned (.bool (false)) ∧ Below w.heap.size w w' := by
  have HR : Hid (∀ w, Calls Tryz.prog 31 #[.int .i64 i.op] w fun e w' => e = .returned (.agg #[.string (nameT op), .int .u32 (mskT op), .int .u32 (matT op), .int .u8 85]) ∧ Below w.heap.size w w') := Lib.hid fun w => by rw [hop]; have h := refRow_any op h1 h2 w; rw [hk] at h; exact h
  have Hrd : Hid (∀ w, Calls Tryz.prog 61 #[.int .u8 85, .string ⟨#[85, 74, 73, 72, 87, 82, 76, 65, 67, 90, 86]⟩] w fun e w' => e = .returned (.bool true) ∧ w = w') := Lib.hid fun w => has_rd 0 (by omega) w
  have Ha : Hid (∀ w, Calls Tryz.prog 61 #[.int .u8 85, .string ⟨#[73, 72, 87, 66, 83, 70, 82, 76, 65, 67, 86]⟩] w fun e w' => e = .returned (.bool false) ∧ w = w') := Lib.hid fun w => has_a 0 (by omega) w
  have Hb : Hid (∀ w, Calls Tryz.prog 61 #[.int .u8 85, .string ⟨#[66, 83, 70, 82, 65]⟩] w fun e w' => e = .returned (.bool false) ∧ w = w') := Lib.hid fun w => has_b 0 (by omega) w
  have Hcsr : Hid (∀ w, Calls Tryz.prog 61 #[.int .u8 85, .string ⟨#[67, 90]⟩] w fun e w' => e = .returned (.bool false) ∧ w = w') := Lib.hid fun w => has_csr 0 (by omega) w
  have Hord : Hid (∀ w, Calls Tryz.prog 61 #[.int .u8 85, .string ⟨#[76, 65]⟩] w fun e w' => e = .returned (.bool false) ∧ w = w') := Lib.hid fun w => has_ord 0 (by omega) w
  have o1 : ¬ i.op < 1 := by omega
  have o2 : ¬ 113 < i.op := by omega
  clear h1 h2 hop hk
  generalize nameT op = nm at *
  generalize (mskT op : Int) = mk at *
  generalize (matT op : Int) = mt at *
  go_enter Tryz.func30, Tryz.ntmps30
  go_wp2_with (first
    | (go_at_call 31; (with_reducible refine (HR.out _).mono ?_); rintro e1 w1 ⟨rfl, hb1⟩; have HB1 : Hid (Below w.heap.size w w1) := Lib.hid (((Below.refl _ _).alloc (Nat.le_refl _) _).trans (hb1.mono (by simp))); have hs1 : w.heap.size < w1.heap.size := (by have := hb1.size; simp at this; omega); have HIR : Hid (w1.heap[w.heap.size]? = some (.cells #[.int .i64 i.op, .int .i64 i.rd, .int .i64 i.a, .int .i64 i.b, .int .i64 i.imm, .int .i64 i.csr, .bool i.aq, .bool i.rl] 23 (0, 0))) := Lib.hid ((hb1.block _ (by simp)).trans (heap_alloc_new w _)); have d0 : w1.cell? ⟨w.heap.size, 0, none⟩ = some (.int .i64 i.op) := (by rw [cell_of_row _ _ _ _ _ _ HIR.out]; rfl); have d1 : w1.cell? ⟨w.heap.size, 1, none⟩ = some (.int .i64 i.rd) := (by rw [cell_of_row _ _ _ _ _ _ HIR.out]; rfl); have d2 : w1.cell? ⟨w.heap.size, 2, none⟩ = some (.int .i64 i.a) := (by rw [cell_of_row _ _ _ _ _ _ HIR.out]; rfl); have d3 : w1.cell? ⟨w.heap.size, 3, none⟩ = some (.int .i64 i.b) := (by rw [cell_of_row _ _ _ _ _ _ HIR.out]; rfl); have d4 : w1.cell? ⟨w.heap.size, 4, none⟩ = some (.int .i64 i.imm) := (by rw [cell_of_row _ _ _ _ _ _ HIR.out]; rfl); have d5 : w1.cell? ⟨w.heap.size, 5, none⟩ = some (.int .i64 i.csr) := (by rw [cell_of_row _ _ _ _ _ _ HIR.out]; rfl); have d6 : w1.cell? ⟨w.heap.size, 6, none⟩ = some (.bool i.aq) := (by rw [cell_of_row _ _ _ _ _ _ HIR.out]; rfl); have d7 : w1.cell? ⟨w.heap.size, 7, none⟩ = some (.bool i.rl) := (by rw [cell_of_row _ _ _ _ _ _ HIR.out]; rfl); clear hb1)
    | (go_at_call 61; (with_reducible refine (Hrd.out _).mono ?_); rintro e w3 ⟨rfl, rfl⟩)
    | (go_at_call 61; (with_reducible refine (Ha.out _).mono ?_); rintro e w3 ⟨rfl, rfl⟩)
    | (go_at_call 61; (with_reducible refine (Hb.out _).mono ?_); rintro e w3 ⟨rfl, rfl⟩)
    | (go_at_call 61; (with_reducible refine (Hcsr.out _).mono ?_); rintro e w3 ⟨rfl, rfl⟩)
    | (go_at_call 61; (with_reducible refine (Hord.out _).mono ?_); rintro e w3 ⟨rfl, rfl⟩)
    | (go_at_call 50; (with_reducible refine (refForm_0 _).mono ?_); rintro e w3 ⟨rfl, rfl⟩))
  go_ret
  exact ⟨rfl, HB1.out.alloc HB1.out.size _⟩

set_option maxHeartbeats 2000000 in
theorem right_0_csr (op : Nat) (h1 : 1 ≤ op) (h2 : op ≤ 113) (hk : frmT op = 0) (i : Ins) (hop : i.op = op) (rdl : ¬ i.rd < 0) (rdh : ¬ 31 < i.rd) (al : ¬ i.a < 0) (ah : ¬ 31 < i.a) (bl : ¬ i.b < 0) (bh : ¬ 31 < i.b) (csrl : ¬ i.csr < 0) (csrh : ¬ 4095 < i.csr) (za : (i.a != 0) = false) (zb : (i.b != 0) = false) (zcsr : (i.csr != 0) = true) (w : World) :
    Calls Tryz.prog 30 #[.agg #[.int .i64 i.op, .int .i64 i.rd, .int .i64 i.a, .int .i64 i.b, .int .i64 i.imm, .int .i64 i.csr, .bool i.aq, .bool i.rl]] w fun e w' => e = .returned (.bool (false)) ∧ Below w.heap.size w w' := by
  have HR : Hid (∀ w, Calls Tryz.prog 31 #[.int .i64 i.op] w fun e w' => e = .returned (.agg #[.string (nameT op), .int .u32 (mskT op), .int .u32 (matT op), .int .u8 85]) ∧ Below w.heap.size w w') := Lib.hid fun w => by rw [hop]; have h := refRow_any op h1 h2 w; rw [hk] at h; exact h
  have Hrd : Hid (∀ w, Calls Tryz.prog 61 #[.int .u8 85, .string ⟨#[85, 74, 73, 72, 87, 82, 76, 65, 67, 90, 86]⟩] w fun e w' => e = .returned (.bool true) ∧ w = w') := Lib.hid fun w => has_rd 0 (by omega) w
  have Ha : Hid (∀ w, Calls Tryz.prog 61 #[.int .u8 85, .string ⟨#[73, 72, 87, 66, 83, 70, 82, 76, 65, 67, 86]⟩] w fun e w' => e = .returned (.bool false) ∧ w = w') := Lib.hid fun w => has_a 0 (by omega) w
  have Hb : Hid (∀ w, Calls Tryz.prog 61 #[.int .u8 85, .string ⟨#[66, 83, 70, 82, 65]⟩] w fun e w' => e = .returned (.bool false) ∧ w = w') := Lib.hid fun w => has_b 0 (by omega) w
  have Hcsr : Hid (∀ w, Calls Tryz.prog 61 #[.int .u8 85, .string ⟨#[67, 90]⟩] w fun e w' => e = .returned (.bool false) ∧ w = w') := Lib.hid fun w => has_csr 0 (by omega) w
  have Hord : Hid (∀ w, Calls Tryz.prog 61 #[.int .u8 85, .string ⟨#[76, 65]⟩] w fun e w' => e = .returned (.bool false) ∧ w = w') := Lib.hid fun w => has_ord 0 (by omega) w
  have o1 : ¬ i.op < 1 := by omega
  have o2 : ¬ 113 < i.op := by omega
  clear h1 h2 hop hk
  generalize nameT op = nm at *
  generalize (mskT op : Int) = mk at *
  generalize (matT op : Int) = mt at *
  go_enter Tryz.func30, Tryz.ntmps30
  go_wp2_with (first
    | (go_at_call 31; (with_reducible refine (HR.out _).mono ?_); rintro e1 w1 ⟨rfl, hb1⟩; have HB1 : Hid (Below w.heap.size w w1) := Lib.hid (((Below.refl _ _).alloc (Nat.le_refl _) _).trans (hb1.mono (by simp))); have hs1 : w.heap.size < w1.heap.size := (by have := hb1.size; simp at this; omega); have HIR : Hid (w1.heap[w.heap.size]? = some (.cells #[.int .i64 i.op, .int .i64 i.rd, .int .i64 i.a, .int .i64 i.b, .int .i64 i.imm, .int .i64 i.csr, .bool i.aq, .bool i.rl] 23 (0, 0))) := Lib.hid ((hb1.block _ (by simp)).trans (heap_alloc_new w _)); have d0 : w1.cell? ⟨w.heap.size, 0, none⟩ = some (.int .i64 i.op) := (by rw [cell_of_row _ _ _ _ _ _ HIR.out]; rfl); have d1 : w1.cell? ⟨w.heap.size, 1, none⟩ = some (.int .i64 i.rd) := (by rw [cell_of_row _ _ _ _ _ _ HIR.out]; rfl); have d2 : w1.cell? ⟨w.heap.size, 2, none⟩ = some (.int .i64 i.a) := (by rw [cell_of_row _ _ _ _ _ _ HIR.out]; rfl); have d3 : w1.cell? ⟨w.heap.size, 3, none⟩ = some (.int .i64 i.b) := (by rw [cell_of_row _ _ _ _ _ _ HIR.out]; rfl); have d4 : w1.cell? ⟨w.heap.size, 4, none⟩ = some (.int .i64 i.imm) := (by rw [cell_of_row _ _ _ _ _ _ HIR.out]; rfl); have d5 : w1.cell? ⟨w.heap.size, 5, none⟩ = some (.int .i64 i.csr) := (by rw [cell_of_row _ _ _ _ _ _ HIR.out]; rfl); have d6 : w1.cell? ⟨w.heap.size, 6, none⟩ = some (.bool i.aq) := (by rw [cell_of_row _ _ _ _ _ _ HIR.out]; rfl); have d7 : w1.cell? ⟨w.heap.size, 7, none⟩ = some (.bool i.rl) := (by rw [cell_of_row _ _ _ _ _ _ HIR.out]; rfl); clear hb1)
    | (go_at_call 61; (with_reducible refine (Hrd.out _).mono ?_); rintro e w3 ⟨rfl, rfl⟩)
    | (go_at_call 61; (with_reducible refine (Ha.out _).mono ?_); rintro e w3 ⟨rfl, rfl⟩)
    | (go_at_call 61; (with_reducible refine (Hb.out _).mono ?_); rintro e w3 ⟨rfl, rfl⟩)
    | (go_at_call 61; (with_reducible refine (Hcsr.out _).mono ?_); rintro e w3 ⟨rfl, rfl⟩)
    | (go_at_call 61; (with_reducible refine (Hord.out _).mono ?_); rintro e w3 ⟨rfl, rfl⟩)
    | (go_at_call 50; (with_reducible refine (refForm_0 _).mono ?_); rintro e w3 ⟨rfl, rfl⟩))
  go_ret
  exact ⟨rfl, HB1.out.alloc HB1.out.size _⟩

set_option maxHeartbeats 2000000 in
theorem right_0_aq (op : Nat) (h1 : 1 ≤ op) (h2 : op ≤ 113) (hk : frmT op = 0) (i : Ins) (hop : i.op = op) (rdl : ¬ i.rd < 0) (rdh : ¬ 31 < i.rd) (al : ¬ i.a < 0) (ah : ¬ 31 < i.a) (bl : ¬ i.b < 0) (bh : ¬ 31 < i.b) (csrl : ¬ i.csr < 0) (csrh : ¬ 4095 < i.csr) (za : (i.a != 0) = false) (zb : (i.b != 0) = false) (zcsr : (i.csr != 0) = false) (zaq : i.aq = true) (w : World) :
    Calls Tryz.prog 30 #[.agg #[.int .i64 i.op, .int .i64 i.rd, .int .i64 i.a, .int .i64 i.b, .int .i64 i.imm, .int .i64 i.csr, .bool i.aq, .bool i.rl]] w fun e w' => e = .returned (.bool (false)) ∧ Below w.heap.size w w' := by
  have HR : Hid (∀ w, Calls Tryz.prog 31 #[.int .i64 i.op] w fun e w' => e = .returned (.agg #[.string (nameT op), .int .u32 (mskT op), .int .u32 (matT op), .int .u8 85]) ∧ Below w.heap.size w w') := Lib.hid fun w => by rw [hop]; have h := refRow_any op h1 h2 w; rw [hk] at h; exact h
  have Hrd : Hid (∀ w, Calls Tryz.prog 61 #[.int .u8 85, .string ⟨#[85, 74, 73, 72, 87, 82, 76, 65, 67, 90, 86]⟩] w fun e w' => e = .returned (.bool true) ∧ w = w') := Lib.hid fun w => has_rd 0 (by omega) w
  have Ha : Hid (∀ w, Calls Tryz.prog 61 #[.int .u8 85, .string ⟨#[73, 72, 87, 66, 83, 70, 82, 76, 65, 67, 86]⟩] w fun e w' => e = .returned (.bool false) ∧ w = w') := Lib.hid fun w => has_a 0 (by omega) w
  have Hb : Hid (∀ w, Calls Tryz.prog 61 #[.int .u8 85, .string ⟨#[66, 83, 70, 82, 65]⟩] w fun e w' => e = .returned (.bool false) ∧ w = w') := Lib.hid fun w => has_b 0 (by omega) w
  have Hcsr : Hid (∀ w, Calls Tryz.prog 61 #[.int .u8 85, .string ⟨#[67, 90]⟩] w fun e w' => e = .returned (.bool false) ∧ w = w') := Lib.hid fun w => has_csr 0 (by omega) w
  have Hord : Hid (∀ w, Calls Tryz.prog 61 #[.int .u8 85, .string ⟨#[76, 65]⟩] w fun e w' => e = .returned (.bool false) ∧ w = w') := Lib.hid fun w => has_ord 0 (by omega) w
  have o1 : ¬ i.op < 1 := by omega
  have o2 : ¬ 113 < i.op := by omega
  clear h1 h2 hop hk
  generalize nameT op = nm at *
  generalize (mskT op : Int) = mk at *
  generalize (matT op : Int) = mt at *
  go_enter Tryz.func30, Tryz.ntmps30
  go_wp2_with (first
    | (go_at_call 31; (with_reducible refine (HR.out _).mono ?_); rintro e1 w1 ⟨rfl, hb1⟩; have HB1 : Hid (Below w.heap.size w w1) := Lib.hid (((Below.refl _ _).alloc (Nat.le_refl _) _).trans (hb1.mono (by simp))); have hs1 : w.heap.size < w1.heap.size := (by have := hb1.size; simp at this; omega); have HIR : Hid (w1.heap[w.heap.size]? = some (.cells #[.int .i64 i.op, .int .i64 i.rd, .int .i64 i.a, .int .i64 i.b, .int .i64 i.imm, .int .i64 i.csr, .bool true, .bool i.rl] 23 (0, 0))) := Lib.hid ((hb1.block _ (by simp)).trans (heap_alloc_new w _)); have d0 : w1.cell? ⟨w.heap.size, 0, none⟩ = some (.int .i64 i.op) := (by rw [cell_of_row _ _ _ _ _ _ HIR.out]; rfl); have d1 : w1.cell? ⟨w.heap.size, 1, none⟩ = some (.int .i64 i.rd) := (by rw [cell_of_row _ _ _ _ _ _ HIR.out]; rfl); have d2 : w1.cell? ⟨w.heap.size, 2, none⟩ = some (.int .i64 i.a) := (by rw [cell_of_row _ _ _ _ _ _ HIR.out]; rfl); have d3 : w1.cell? ⟨w.heap.size, 3, none⟩ = some (.int .i64 i.b) := (by rw [cell_of_row _ _ _ _ _ _ HIR.out]; rfl); have d4 : w1.cell? ⟨w.heap.size, 4, none⟩ = some (.int .i64 i.imm) := (by rw [cell_of_row _ _ _ _ _ _ HIR.out]; rfl); have d5 : w1.cell? ⟨w.heap.size, 5, none⟩ = some (.int .i64 i.csr) := (by rw [cell_of_row _ _ _ _ _ _ HIR.out]; rfl); have d6 : w1.cell? ⟨w.heap.size, 6, none⟩ = some (.bool true) := (by rw [cell_of_row _ _ _ _ _ _ HIR.out]; rfl); have d7 : w1.cell? ⟨w.heap.size, 7, none⟩ = some (.bool i.rl) := (by rw [cell_of_row _ _ _ _ _ _ HIR.out]; rfl); clear hb1)
    | (go_at_call 61; (with_reducible refine (Hrd.out _).mono ?_); rintro e w3 ⟨rfl, rfl⟩)
    | (go_at_call 61; (with_reducible refine (Ha.out _).mono ?_); rintro e w3 ⟨rfl, rfl⟩)
    | (go_at_call 61; (with_reducible refine (Hb.out _).mono ?_); rintro e w3 ⟨rfl, rfl⟩)
    | (go_at_call 61; (with_reducible refine (Hcsr.out _).mono ?_); rintro e w3 ⟨rfl, rfl⟩)
    | (go_at_call 61; (with_reducible refine (Hord.out _).mono ?_); rintro e w3 ⟨rfl, rfl⟩)
    | (go_at_call 50; (with_reducible refine (refForm_0 _).mono ?_); rintro e w3 ⟨rfl, rfl⟩))
  go_ret
  exact ⟨rfl, HB1.out.alloc HB1.out.size _⟩

set_option maxHeartbeats 2000000 in
theorem right_0_rl (op : Nat) (h1 : 1 ≤ op) (h2 : op ≤ 113) (hk : frmT op = 0) (i : Ins) (hop : i.op = op) (rdl : ¬ i.rd < 0) (rdh : ¬ 31 < i.rd) (al : ¬ i.a < 0) (ah : ¬ 31 < i.a) (bl : ¬ i.b < 0) (bh : ¬ 31 < i.b) (csrl : ¬ i.csr < 0) (csrh : ¬ 4095 < i.csr) (za : (i.a != 0) = false) (zb : (i.b != 0) = false) (zcsr : (i.csr != 0) = false) (zaq : i.aq = false) (zrl : i.rl = true) (w : World) :
    Calls Tryz.prog 30 #[.agg #[.int .i64 i.op, .int .i64 i.rd, .int .i64 i.a, .int .i64 i.b, .int .i64 i.imm, .int .i64 i.csr, .bool i.aq, .bool i.rl]] w fun e w' => e = .returned (.bool (false)) ∧ Below w.heap.size w w' := by
  have HR : Hid (∀ w, Calls Tryz.prog 31 #[.int .i64 i.op] w fun e w' => e = .returned (.agg #[.string (nameT op), .int .u32 (mskT op), .int .u32 (matT op), .int .u8 85]) ∧ Below w.heap.size w w') := Lib.hid fun w => by rw [hop]; have h := refRow_any op h1 h2 w; rw [hk] at h; exact h
  have Hrd : Hid (∀ w, Calls Tryz.prog 61 #[.int .u8 85, .string ⟨#[85, 74, 73, 72, 87, 82, 76, 65, 67, 90, 86]⟩] w fun e w' => e = .returned (.bool true) ∧ w = w') := Lib.hid fun w => has_rd 0 (by omega) w
  have Ha : Hid (∀ w, Calls Tryz.prog 61 #[.int .u8 85, .string ⟨#[73, 72, 87, 66, 83, 70, 82, 76, 65, 67, 86]⟩] w fun e w' => e = .returned (.bool false) ∧ w = w') := Lib.hid fun w => has_a 0 (by omega) w
  have Hb : Hid (∀ w, Calls Tryz.prog 61 #[.int .u8 85, .string ⟨#[66, 83, 70, 82, 65]⟩] w fun e w' => e = .returned (.bool false) ∧ w = w') := Lib.hid fun w => has_b 0 (by omega) w
  have Hcsr : Hid (∀ w, Calls Tryz.prog 61 #[.int .u8 85, .string ⟨#[67, 90]⟩] w fun e w' => e = .returned (.bool false) ∧ w = w') := Lib.hid fun w => has_csr 0 (by omega) w
  have Hord : Hid (∀ w, Calls Tryz.prog 61 #[.int .u8 85, .string ⟨#[76, 65]⟩] w fun e w' => e = .returned (.bool false) ∧ w = w') := Lib.hid fun w => has_ord 0 (by omega) w
  have o1 : ¬ i.op < 1 := by omega
  have o2 : ¬ 113 < i.op := by omega
  clear h1 h2 hop hk
  generalize nameT op = nm at *
  generalize (mskT op : Int) = mk at *
  generalize (matT op : Int) = mt at *
  go_enter Tryz.func30, Tryz.ntmps30
  go_wp2_with (first
    | (go_at_call 31; (with_reducible refine (HR.out _).mono ?_); rintro e1 w1 ⟨rfl, hb1⟩; have HB1 : Hid (Below w.heap.size w w1) := Lib.hid (((Below.refl _ _).alloc (Nat.le_refl _) _).trans (hb1.mono (by simp))); have hs1 : w.heap.size < w1.heap.size := (by have := hb1.size; simp at this; omega); have HIR : Hid (w1.heap[w.heap.size]? = some (.cells #[.int .i64 i.op, .int .i64 i.rd, .int .i64 i.a, .int .i64 i.b, .int .i64 i.imm, .int .i64 i.csr, .bool false, .bool true] 23 (0, 0))) := Lib.hid ((hb1.block _ (by simp)).trans (heap_alloc_new w _)); have d0 : w1.cell? ⟨w.heap.size, 0, none⟩ = some (.int .i64 i.op) := (by rw [cell_of_row _ _ _ _ _ _ HIR.out]; rfl); have d1 : w1.cell? ⟨w.heap.size, 1, none⟩ = some (.int .i64 i.rd) := (by rw [cell_of_row _ _ _ _ _ _ HIR.out]; rfl); have d2 : w1.cell? ⟨w.heap.size, 2, none⟩ = some (.int .i64 i.a) := (by rw [cell_of_row _ _ _ _ _ _ HIR.out]; rfl); have d3 : w1.cell? ⟨w.heap.size, 3, none⟩ = some (.int .i64 i.b) := (by rw [cell_of_row _ _ _ _ _ _ HIR.out]; rfl); have d4 : w1.cell? ⟨w.heap.size, 4, none⟩ = some (.int .i64 i.imm) := (by rw [cell_of_row _ _ _ _ _ _ HIR.out]; rfl); have d5 : w1.cell? ⟨w.heap.size, 5, none⟩ = some (.int .i64 i.csr) := (by rw [cell_of_row _ _ _ _ _ _ HIR.out]; rfl); have d6 : w1.cell? ⟨w.heap.size, 6, none⟩ = some (.bool false) := (by rw [cell_of_row _ _ _ _ _ _ HIR.out]; rfl); have d7 : w1.cell? ⟨w.heap.size, 7, none⟩ = some (.bool true) := (by rw [cell_of_row _ _ _ _ _ _ HIR.out]; rfl); clear hb1)
    | (go_at_call 61; (with_reducible refine (Hrd.out _).mono ?_); rintro e w3 ⟨rfl, rfl⟩)
    | (go_at_call 61; (with_reducible refine (Ha.out _).mono ?_); rintro e w3 ⟨rfl, rfl⟩)
    | (go_at_call 61; (with_reducible refine (Hb.out _).mono ?_); rintro e w3 ⟨rfl, rfl⟩)
    | (go_at_call 61; (with_reducible refine (Hcsr.out _).mono ?_); rintro e w3 ⟨rfl, rfl⟩)
    | (go_at_call 61; (with_reducible refine (Hord.out _).mono ?_); rintro e w3 ⟨rfl, rfl⟩)
    | (go_at_call 50; (with_reducible refine (refForm_0 _).mono ?_); rintro e w3 ⟨rfl, rfl⟩))
  go_ret
  exact ⟨rfl, HB1.out.alloc HB1.out.size _⟩

set_option maxHeartbeats 2000000 in
theorem right_0_end (op : Nat) (h1 : 1 ≤ op) (h2 : op ≤ 113) (hk : frmT op = 0) (i : Ins) (hop : i.op = op) (rdl : ¬ i.rd < 0) (rdh : ¬ 31 < i.rd) (al : ¬ i.a < 0) (ah : ¬ 31 < i.a) (bl : ¬ i.b < 0) (bh : ¬ 31 < i.b) (csrl : ¬ i.csr < 0) (csrh : ¬ 4095 < i.csr) (za : (i.a != 0) = false) (zb : (i.b != 0) = false) (zcsr : (i.csr != 0) = false) (zaq : i.aq = false) (zrl : i.rl = false) (w : World) :
    Calls Tryz.prog 30 #[.agg #[.int .i64 i.op, .int .i64 i.rd, .int .i64 i.a, .int .i64 i.b, .int .i64 i.imm, .int .i64 i.csr, .bool i.aq, .bool i.rl]] w fun e w' => e = .returned (.bool ((formL 4).number ((formL 4).word i.imm) == i.imm)) ∧ Below w.heap.size w w' := by
  have HR : Hid (∀ w, Calls Tryz.prog 31 #[.int .i64 i.op] w fun e w' => e = .returned (.agg #[.string (nameT op), .int .u32 (mskT op), .int .u32 (matT op), .int .u8 85]) ∧ Below w.heap.size w w') := Lib.hid fun w => by rw [hop]; have h := refRow_any op h1 h2 w; rw [hk] at h; exact h
  have Hrd : Hid (∀ w, Calls Tryz.prog 61 #[.int .u8 85, .string ⟨#[85, 74, 73, 72, 87, 82, 76, 65, 67, 90, 86]⟩] w fun e w' => e = .returned (.bool true) ∧ w = w') := Lib.hid fun w => has_rd 0 (by omega) w
  have Ha : Hid (∀ w, Calls Tryz.prog 61 #[.int .u8 85, .string ⟨#[73, 72, 87, 66, 83, 70, 82, 76, 65, 67, 86]⟩] w fun e w' => e = .returned (.bool false) ∧ w = w') := Lib.hid fun w => has_a 0 (by omega) w
  have Hb : Hid (∀ w, Calls Tryz.prog 61 #[.int .u8 85, .string ⟨#[66, 83, 70, 82, 65]⟩] w fun e w' => e = .returned (.bool false) ∧ w = w') := Lib.hid fun w => has_b 0 (by omega) w
  have Hcsr : Hid (∀ w, Calls Tryz.prog 61 #[.int .u8 85, .string ⟨#[67, 90]⟩] w fun e w' => e = .returned (.bool false) ∧ w = w') := Lib.hid fun w => has_csr 0 (by omega) w
  have Hord : Hid (∀ w, Calls Tryz.prog 61 #[.int .u8 85, .string ⟨#[76, 65]⟩] w fun e w' => e = .returned (.bool false) ∧ w = w') := Lib.hid fun w => has_ord 0 (by omega) w
  have HFI : Hid (∀ w, Calls Tryz.prog 49 #[.int .i64 4, .int .i64 i.imm] w fun e w' => e = .returned (.bool ((formL 4).number ((formL 4).word i.imm) == i.imm)) ∧ Below w.heap.size w w') := Lib.hid fun w => refFits_form 4 (by omega) i.imm w
  generalize ((formL 4).number ((formL 4).word i.imm) == i.imm) = r at *
  have o1 : ¬ i.op < 1 := by omega
  have o2 : ¬ 113 < i.op := by omega
  clear h1 h2 hop hk
  generalize nameT op = nm at *
  generalize (mskT op : Int) = mk at *
  generalize (matT op : Int) = mt at *
  go_enter Tryz.func30, Tryz.ntmps30
  go_wp2_with (first
    | (go_at_call 31; (with_reducible refine (HR.out _).mono ?_); rintro e1 w1 ⟨rfl, hb1⟩; have HB1 : Hid (Below w.heap.size w w1) := Lib.hid (((Below.refl _ _).alloc (Nat.le_refl _) _).trans (hb1.mono (by simp))); have hs1 : w.heap.size < w1.heap.size := (by have := hb1.size; simp at this; omega); have HIR : Hid (w1.heap[w.heap.size]? = some (.cells #[.int .i64 i.op, .int .i64 i.rd, .int .i64 i.a, .int .i64 i.b, .int .i64 i.imm, .int .i64 i.csr, .bool false, .bool false] 23 (0, 0))) := Lib.hid ((hb1.block _ (by simp)).trans (heap_alloc_new w _)); have d0 : w1.cell? ⟨w.heap.size, 0, none⟩ = some (.int .i64 i.op) := (by rw [cell_of_row _ _ _ _ _ _ HIR.out]; rfl); have d1 : w1.cell? ⟨w.heap.size, 1, none⟩ = some (.int .i64 i.rd) := (by rw [cell_of_row _ _ _ _ _ _ HIR.out]; rfl); have d2 : w1.cell? ⟨w.heap.size, 2, none⟩ = some (.int .i64 i.a) := (by rw [cell_of_row _ _ _ _ _ _ HIR.out]; rfl); have d3 : w1.cell? ⟨w.heap.size, 3, none⟩ = some (.int .i64 i.b) := (by rw [cell_of_row _ _ _ _ _ _ HIR.out]; rfl); have d4 : w1.cell? ⟨w.heap.size, 4, none⟩ = some (.int .i64 i.imm) := (by rw [cell_of_row _ _ _ _ _ _ HIR.out]; rfl); have d5 : w1.cell? ⟨w.heap.size, 5, none⟩ = some (.int .i64 i.csr) := (by rw [cell_of_row _ _ _ _ _ _ HIR.out]; rfl); have d6 : w1.cell? ⟨w.heap.size, 6, none⟩ = some (.bool false) := (by rw [cell_of_row _ _ _ _ _ _ HIR.out]; rfl); have d7 : w1.cell? ⟨w.heap.size, 7, none⟩ = some (.bool false) := (by rw [cell_of_row _ _ _ _ _ _ HIR.out]; rfl); clear hb1)
    | (go_at_call 61; (with_reducible refine (Hrd.out _).mono ?_); rintro e w3 ⟨rfl, rfl⟩)
    | (go_at_call 61; (with_reducible refine (Ha.out _).mono ?_); rintro e w3 ⟨rfl, rfl⟩)
    | (go_at_call 61; (with_reducible refine (Hb.out _).mono ?_); rintro e w3 ⟨rfl, rfl⟩)
    | (go_at_call 61; (with_reducible refine (Hcsr.out _).mono ?_); rintro e w3 ⟨rfl, rfl⟩)
    | (go_at_call 61; (with_reducible refine (Hord.out _).mono ?_); rintro e w3 ⟨rfl, rfl⟩)
    | (go_at_call 50; (with_reducible refine (refForm_0 _).mono ?_); rintro e w3 ⟨rfl, rfl⟩))
  have HB2 : Hid (Below w.heap.size w (w1.alloc (.cells #[.string nm, .int .u32 mk, .int .u32 mt, .int .u8 85] 59))) := Lib.hid (HB1.out.alloc HB1.out.size _)
  have q3 : (w1.alloc (.cells #[.string nm, .int .u32 mk, .int .u32 mt, .int .u8 85] 59)).cell? ⟨w1.heap.size, 3, none⟩ = some (.int .u8 85) := World.cell?_alloc_at _ _ _ _ rfl
  have q4 : (w1.alloc (.cells #[.string nm, .int .u32 mk, .int .u32 mt, .int .u8 85] 59)).cell? ⟨w.heap.size, 4, none⟩ = some (.int .i64 i.imm) := by go_simp
  have s1 : w1.heap.size < (w1.alloc (.cells #[.string nm, .int .u32 mk, .int .u32 mt, .int .u8 85] 59)).heap.size := by rw [World.size_alloc]; omega
  have s2 : w.heap.size < (w1.alloc (.cells #[.string nm, .int .u32 mk, .int .u32 mt, .int .u8 85] 59)).heap.size := by rw [World.size_alloc]; omega
  clear d0 d1 d2 d3 d4 d5 d6 d7 HIR HB1
  generalize hw2 : (w1.alloc (.cells #[.string nm, .int .u32 mk, .int .u32 mt, .int .u8 85] 59)) = w2 at *
  clear hw2
  generalize w1.heap.size = m at *
  generalize hn : w.heap.size = n at *
  have HNN := Lib.hid hn
  clear hn
  go_region_held3 (fun w' => w'.cell? ⟨m, 3, none⟩ = some (.int .u8 85) ∧ w'.cell? ⟨n, 4, none⟩ = some (.int .i64 i.imm)) (go_keep)
    (first
      | (go_at_call 50; refine (refForm_0 _).mono ?_; rintro e w3 ⟨rfl, rfl⟩)
      | (go_at_call 49; refine (HFI.out _).mono ?_; rintro e w4 ⟨rfl, hb4⟩; have g3 := (hb4.cell (p := ⟨m, 3, none⟩) s1).trans q3; have g4 := (hb4.cell (p := ⟨n, 4, none⟩) s2).trans q4; have HB4 := Lib.hid (HB2.out.trans (((Below.refl _ _).drew.trans hb4).mono (Nat.le_of_lt s2))); clear hb4))
  go_wp2
  go_ret
  exact ⟨rfl, by rw [HNN.out]; exact HB4.out⟩

set_option maxHeartbeats 2000000 in
theorem right_1_a (op : Nat) (h1 : 1 ≤ op) (h2 : op ≤ 113) (hk : frmT op = 1) (i : Ins) (hop : i.op = op) (rdl : ¬ i.rd < 0) (rdh : ¬ 31 < i.rd) (al : ¬ i.a < 0) (ah : ¬ 31 < i.a) (bl : ¬ i.b < 0) (bh : ¬ 31 < i.b) (csrl : ¬ i.csr < 0) (csrh : ¬ 4095 < i.csr) (za : (i.a != 0) = true) (w : World) :
    Calls Tryz.prog 30 #[.agg #[.int .i64 i.op, .int .i64 i.rd, .int .i64 i.a, .int .i64 i.b, .int .i64 i.imm, .int .i64 i.csr, .bool i.aq, .bool i.rl]] w fun e w' => e = .returned (.bool (false)) ∧ Below w.heap.size w w' := by
  have HR : Hid (∀ w, Calls Tryz.prog 31 #[.int .i64 i.op] w fun e w' => e = .returned (.agg #[.string (nameT op), .int .u32 (mskT op), .int .u32 (matT op), .int .u8 74]) ∧ Below w.heap.size w w') := Lib.hid fun w => by rw [hop]; have h := refRow_any op h1 h2 w; rw [hk] at h; exact h
  have Hrd : Hid (∀ w, Calls Tryz.prog 61 #[.int .u8 74, .string ⟨#[85, 74, 73, 72, 87, 82, 76, 65, 67, 90, 86]⟩] w fun e w' => e = .returned (.bool true) ∧ w = w') := Lib.hid fun w => has_rd 1 (by omega) w
  have Ha : Hid (∀ w, Calls Tryz.prog 61 #[.int .u8 74, .string ⟨#[73, 72, 87, 66, 83, 70, 82, 76, 65, 67, 86]⟩] w fun e w' => e = .returned (.bool false) ∧ w = w') := Lib.hid fun w => has_a 1 (by omega) w
  have Hb : Hid (∀ w, Calls Tryz.prog 61 #[.int .u8 74, .string ⟨#[66, 83, 70, 82, 65]⟩] w fun e w' => e = .returned (.bool false) ∧ w = w') := Lib.hid fun w => has_b 1 (by omega) w
  have Hcsr : Hid (∀ w, Calls Tryz.prog 61 #[.int .u8 74, .string ⟨#[67, 90]⟩] w fun e w' => e = .returned (.bool false) ∧ w = w') := Lib.hid fun w => has_csr 1 (by omega) w
  have Hord : Hid (∀ w, Calls Tryz.prog 61 #[.int .u8 74, .string ⟨#[76, 65]⟩] w fun e w' => e = .returned (.bool false) ∧ w = w') := Lib.hid fun w => has_ord 1 (by omega) w
  have o1 : ¬ i.op < 1 := by omega
  have o2 : ¬ 113 < i.op := by omega
  clear h1 h2 hop hk
  generalize nameT op = nm at *
  generalize (mskT op : Int) = mk at *
  generalize (matT op : Int) = mt at *
  go_enter Tryz.func30, Tryz.ntmps30
  go_wp2_with (first
    | (go_at_call 31; (with_reducible refine (HR.out _).mono ?_); rintro e1 w1 ⟨rfl, hb1⟩; have HB1 : Hid (Below w.heap.size w w1) := Lib.hid (((Below.refl _ _).alloc (Nat.le_refl _) _).trans (hb1.mono (by simp))); have hs1 : w.heap.size < w1.heap.size := (by have := hb1.size; simp at this; omega); have HIR : Hid (w1.heap[w.heap.size]? = some (.cells #[.int .i64 i.op, .int .i64 i.rd, .int .i64 i.a, .int .i64 i.b, .int .i64 i.imm, .int .i64 i.csr, .bool i.aq, .bool i.rl] 23 (0, 0))) := Lib.hid ((hb1.block _ (by simp)).trans (heap_alloc_new w _)); have d0 : w1.cell? ⟨w.heap.size, 0, none⟩ = some (.int .i64 i.op) := (by rw [cell_of_row _ _ _ _ _ _ HIR.out]; rfl); have d1 : w1.cell? ⟨w.heap.size, 1, none⟩ = some (.int .i64 i.rd) := (by rw [cell_of_row _ _ _ _ _ _ HIR.out]; rfl); have d2 : w1.cell? ⟨w.heap.size, 2, none⟩ = some (.int .i64 i.a) := (by rw [cell_of_row _ _ _ _ _ _ HIR.out]; rfl); have d3 : w1.cell? ⟨w.heap.size, 3, none⟩ = some (.int .i64 i.b) := (by rw [cell_of_row _ _ _ _ _ _ HIR.out]; rfl); have d4 : w1.cell? ⟨w.heap.size, 4, none⟩ = some (.int .i64 i.imm) := (by rw [cell_of_row _ _ _ _ _ _ HIR.out]; rfl); have d5 : w1.cell? ⟨w.heap.size, 5, none⟩ = some (.int .i64 i.csr) := (by rw [cell_of_row _ _ _ _ _ _ HIR.out]; rfl); have d6 : w1.cell? ⟨w.heap.size, 6, none⟩ = some (.bool i.aq) := (by rw [cell_of_row _ _ _ _ _ _ HIR.out]; rfl); have d7 : w1.cell? ⟨w.heap.size, 7, none⟩ = some (.bool i.rl) := (by rw [cell_of_row _ _ _ _ _ _ HIR.out]; rfl); clear hb1)
    | (go_at_call 61; (with_reducible refine (Hrd.out _).mono ?_); rintro e w3 ⟨rfl, rfl⟩)
    | (go_at_call 61; (with_reducible refine (Ha.out _).mono ?_); rintro e w3 ⟨rfl, rfl⟩)
    | (go_at_call 61; (with_reducible refine (Hb.out _).mono ?_); rintro e w3 ⟨rfl, rfl⟩)
    | (go_at_call 61; (with_reducible refine (Hcsr.out _).mono ?_); rintro e w3 ⟨rfl, rfl⟩)
    | (go_at_call 61; (with_reducible refine (Hord.out _).mono ?_); rintro e w3 ⟨rfl, rfl⟩)
    | (go_at_call 50; (with_reducible refine (refForm_1 _).mono ?_); rintro e w3 ⟨rfl, rfl⟩))
  go_ret
  exact ⟨rfl, HB1.out.alloc HB1.out.size _⟩

set_option maxHeartbeats 2000000 in
theorem right_1_b (op : Nat) (h1 : 1 ≤ op) (h2 : op ≤ 113) (hk : frmT op = 1) (i : Ins) (hop : i.op = op) (rdl : ¬ i.rd < 0) (rdh : ¬ 31 < i.rd) (al : ¬ i.a < 0) (ah : ¬ 31 < i.a) (bl : ¬ i.b < 0) (bh : ¬ 31 < i.b) (csrl : ¬ i.csr < 0) (csrh : ¬ 4095 < i.csr) (za : (i.a != 0) = false) (zb : (i.b != 0) = true) (w : World) :
    Calls Tryz.prog 30 #[.agg #[.int .i64 i.op, .int .i64 i.rd, .int .i64 i.a, .int .i64 i.b, .int .i64 i.imm, .int .i64 i.csr, .bool i.aq, .bool i.rl]] w fun e w' => e = .returned (.bool (false)) ∧ Below w.heap.size w w' := by
  have HR : Hid (∀ w, Calls Tryz.prog 31 #[.int .i64 i.op] w fun e w' => e = .returned (.agg #[.string (nameT op), .int .u32 (mskT op), .int .u32 (matT op), .int .u8 74]) ∧ Below w.heap.size w w') := Lib.hid fun w => by rw [hop]; have h := refRow_any op h1 h2 w; rw [hk] at h; exact h
  have Hrd : Hid (∀ w, Calls Tryz.prog 61 #[.int .u8 74, .string ⟨#[85, 74, 73, 72, 87, 82, 76, 65, 67, 90, 86]⟩] w fun e w' => e = .returned (.bool true) ∧ w = w') := Lib.hid fun w => has_rd 1 (by omega) w
  have Ha : Hid (∀ w, Calls Tryz.prog 61 #[.int .u8 74, .string ⟨#[73, 72, 87, 66, 83, 70, 82, 76, 65, 67, 86]⟩] w fun e w' => e = .returned (.bool false) ∧ w = w') := Lib.hid fun w => has_a 1 (by omega) w
  have Hb : Hid (∀ w, Calls Tryz.prog 61 #[.int .u8 74, .string ⟨#[66, 83, 70, 82, 65]⟩] w fun e w' => e = .returned (.bool false) ∧ w = w') := Lib.hid fun w => has_b 1 (by omega) w
  have Hcsr : Hid (∀ w, Calls Tryz.prog 61 #[.int .u8 74, .string ⟨#[67, 90]⟩] w fun e w' => e = .returned (.bool false) ∧ w = w') := Lib.hid fun w => has_csr 1 (by omega) w
  have Hord : Hid (∀ w, Calls Tryz.prog 61 #[.int .u8 74, .string ⟨#[76, 65]⟩] w fun e w' => e = .returned (.bool false) ∧ w = w') := Lib.hid fun w => has_ord 1 (by omega) w
  have o1 : ¬ i.op < 1 := by omega
  have o2 : ¬ 113 < i.op := by omega
  clear h1 h2 hop hk
  generalize nameT op = nm at *
  generalize (mskT op : Int) = mk at *
  generalize (matT op : Int) = mt at *
  go_enter Tryz.func30, Tryz.ntmps30
  go_wp2_with (first
    | (go_at_call 31; (with_reducible refine (HR.out _).mono ?_); rintro e1 w1 ⟨rfl, hb1⟩; have HB1 : Hid (Below w.heap.size w w1) := Lib.hid (((Below.refl _ _).alloc (Nat.le_refl _) _).trans (hb1.mono (by simp))); have hs1 : w.heap.size < w1.heap.size := (by have := hb1.size; simp at this; omega); have HIR : Hid (w1.heap[w.heap.size]? = some (.cells #[.int .i64 i.op, .int .i64 i.rd, .int .i64 i.a, .int .i64 i.b, .int .i64 i.imm, .int .i64 i.csr, .bool i.aq, .bool i.rl] 23 (0, 0))) := Lib.hid ((hb1.block _ (by simp)).trans (heap_alloc_new w _)); have d0 : w1.cell? ⟨w.heap.size, 0, none⟩ = some (.int .i64 i.op) := (by rw [cell_of_row _ _ _ _ _ _ HIR.out]; rfl); have d1 : w1.cell? ⟨w.heap.size, 1, none⟩ = some (.int .i64 i.rd) := (by rw [cell_of_row _ _ _ _ _ _ HIR.out]; rfl); have d2 : w1.cell? ⟨w.heap.size, 2, none⟩ = some (.int .i64 i.a) := (by rw [cell_of_row _ _ _ _ _ _ HIR.out]; rfl); have d3 : w1.cell? ⟨w.heap.size, 3, none⟩ = some (.int .i64 i.b) := (by rw [cell_of_row _ _ _ _ _ _ HIR.out]; rfl); have d4 : w1.cell? ⟨w.heap.size, 4, none⟩ = some (.int .i64 i.imm) := (by rw [cell_of_row _ _ _ _ _ _ HIR.out]; rfl); have d5 : w1.cell? ⟨w.heap.size, 5, none⟩ = some (.int .i64 i.csr) := (by rw [cell_of_row _ _ _ _ _ _ HIR.out]; rfl); have d6 : w1.cell? ⟨w.heap.size, 6, none⟩ = some (.bool i.aq) := (by rw [cell_of_row _ _ _ _ _ _ HIR.out]; rfl); have d7 : w1.cell? ⟨w.heap.size, 7, none⟩ = some (.bool i.rl) := (by rw [cell_of_row _ _ _ _ _ _ HIR.out]; rfl); clear hb1)
    | (go_at_call 61; (with_reducible refine (Hrd.out _).mono ?_); rintro e w3 ⟨rfl, rfl⟩)
    | (go_at_call 61; (with_reducible refine (Ha.out _).mono ?_); rintro e w3 ⟨rfl, rfl⟩)
    | (go_at_call 61; (with_reducible refine (Hb.out _).mono ?_); rintro e w3 ⟨rfl, rfl⟩)
    | (go_at_call 61; (with_reducible refine (Hcsr.out _).mono ?_); rintro e w3 ⟨rfl, rfl⟩)
    | (go_at_call 61; (with_reducible refine (Hord.out _).mono ?_); rintro e w3 ⟨rfl, rfl⟩)
    | (go_at_call 50; (with_reducible refine (refForm_1 _).mono ?_); rintro e w3 ⟨rfl, rfl⟩))
  go_ret
  exact ⟨rfl, HB1.out.alloc HB1.out.size _⟩

set_option maxHeartbeats 2000000 in
theorem right_1_csr (op : Nat) (h1 : 1 ≤ op) (h2 : op ≤ 113) (hk : frmT op = 1) (i : Ins) (hop : i.op = op) (rdl : ¬ i.rd < 0) (rdh : ¬ 31 < i.rd) (al : ¬ i.a < 0) (ah : ¬ 31 < i.a) (bl : ¬ i.b < 0) (bh : ¬ 31 < i.b) (csrl : ¬ i.csr < 0) (csrh : ¬ 4095 < i.csr) (za : (i.a != 0) = false) (zb : (i.b != 0) = false) (zcsr : (i.csr != 0) = true) (w : World) :
    Calls Tryz.prog 30 #[.agg #[.int .i64 i.op, .int .i64 i.rd, .int .i64 i.a, .int .i64 i.b, .int .i64 i.imm, .int .i64 i.csr, .bool i.aq, .bool i.rl]] w fun e w' => e = .returned (.bool (false)) ∧ Below w.heap.size w w' := by
  have HR : Hid (∀ w, Calls Tryz.prog 31 #[.int .i64 i.op] w fun e w' => e = .returned (.agg #[.string (nameT op), .int .u32 (mskT op), .int .u32 (matT op), .int .u8 74]) ∧ Below w.heap.size w w') := Lib.hid fun w => by rw [hop]; have h := refRow_any op h1 h2 w; rw [hk] at h; exact h
  have Hrd : Hid (∀ w, Calls Tryz.prog 61 #[.int .u8 74, .string ⟨#[85, 74, 73, 72, 87, 82, 76, 65, 67, 90, 86]⟩] w fun e w' => e = .returned (.bool true) ∧ w = w') := Lib.hid fun w => has_rd 1 (by omega) w
  have Ha : Hid (∀ w, Calls Tryz.prog 61 #[.int .u8 74, .string ⟨#[73, 72, 87, 66, 83, 70, 82, 76, 65, 67, 86]⟩] w fun e w' => e = .returned (.bool false) ∧ w = w') := Lib.hid fun w => has_a 1 (by omega) w
  have Hb : Hid (∀ w, Calls Tryz.prog 61 #[.int .u8 74, .string ⟨#[66, 83, 70, 82, 65]⟩] w fun e w' => e = .returned (.bool false) ∧ w = w') := Lib.hid fun w => has_b 1 (by omega) w
  have Hcsr : Hid (∀ w, Calls Tryz.prog 61 #[.int .u8 74, .string ⟨#[67, 90]⟩] w fun e w' => e = .returned (.bool false) ∧ w = w') := Lib.hid fun w => has_csr 1 (by omega) w
  have Hord : Hid (∀ w, Calls Tryz.prog 61 #[.int .u8 74, .string ⟨#[76, 65]⟩] w fun e w' => e = .returned (.bool false) ∧ w = w') := Lib.hid fun w => has_ord 1 (by omega) w
  have o1 : ¬ i.op < 1 := by omega
  have o2 : ¬ 113 < i.op := by omega
  clear h1 h2 hop hk
  generalize nameT op = nm at *
  generalize (mskT op : Int) = mk at *
  generalize (matT op : Int) = mt at *
  go_enter Tryz.func30, Tryz.ntmps30
  go_wp2_with (first
    | (go_at_call 31; (with_reducible refine (HR.out _).mono ?_); rintro e1 w1 ⟨rfl, hb1⟩; have HB1 : Hid (Below w.heap.size w w1) := Lib.hid (((Below.refl _ _).alloc (Nat.le_refl _) _).trans (hb1.mono (by simp))); have hs1 : w.heap.size < w1.heap.size := (by have := hb1.size; simp at this; omega); have HIR : Hid (w1.heap[w.heap.size]? = some (.cells #[.int .i64 i.op, .int .i64 i.rd, .int .i64 i.a, .int .i64 i.b, .int .i64 i.imm, .int .i64 i.csr, .bool i.aq, .bool i.rl] 23 (0, 0))) := Lib.hid ((hb1.block _ (by simp)).trans (heap_alloc_new w _)); have d0 : w1.cell? ⟨w.heap.size, 0, none⟩ = some (.int .i64 i.op) := (by rw [cell_of_row _ _ _ _ _ _ HIR.out]; rfl); have d1 : w1.cell? ⟨w.heap.size, 1, none⟩ = some (.int .i64 i.rd) := (by rw [cell_of_row _ _ _ _ _ _ HIR.out]; rfl); have d2 : w1.cell? ⟨w.heap.size, 2, none⟩ = some (.int .i64 i.a) := (by rw [cell_of_row _ _ _ _ _ _ HIR.out]; rfl); have d3 : w1.cell? ⟨w.heap.size, 3, none⟩ = some (.int .i64 i.b) := (by rw [cell_of_row _ _ _ _ _ _ HIR.out]; rfl); have d4 : w1.cell? ⟨w.heap.size, 4, none⟩ = some (.int .i64 i.imm) := (by rw [cell_of_row _ _ _ _ _ _ HIR.out]; rfl); have d5 : w1.cell? ⟨w.heap.size, 5, none⟩ = some (.int .i64 i.csr) := (by rw [cell_of_row _ _ _ _ _ _ HIR.out]; rfl); have d6 : w1.cell? ⟨w.heap.size, 6, none⟩ = some (.bool i.aq) := (by rw [cell_of_row _ _ _ _ _ _ HIR.out]; rfl); have d7 : w1.cell? ⟨w.heap.size, 7, none⟩ = some (.bool i.rl) := (by rw [cell_of_row _ _ _ _ _ _ HIR.out]; rfl); clear hb1)
    | (go_at_call 61; (with_reducible refine (Hrd.out _).mono ?_); rintro e w3 ⟨rfl, rfl⟩)
    | (go_at_call 61; (with_reducible refine (Ha.out _).mono ?_); rintro e w3 ⟨rfl, rfl⟩)
    | (go_at_call 61; (with_reducible refine (Hb.out _).mono ?_); rintro e w3 ⟨rfl, rfl⟩)
    | (go_at_call 61; (with_reducible refine (Hcsr.out _).mono ?_); rintro e w3 ⟨rfl, rfl⟩)
    | (go_at_call 61; (with_reducible refine (Hord.out _).mono ?_); rintro e w3 ⟨rfl, rfl⟩)
    | (go_at_call 50; (with_reducible refine (refForm_1 _).mono ?_); rintro e w3 ⟨rfl, rfl⟩))
  go_ret
  exact ⟨rfl, HB1.out.alloc HB1.out.size _⟩

set_option maxHeartbeats 2000000 in
theorem right_1_aq (op : Nat) (h1 : 1 ≤ op) (h2 : op ≤ 113) (hk : frmT op = 1) (i : Ins) (hop : i.op = op) (rdl : ¬ i.rd < 0) (rdh : ¬ 31 < i.rd) (al : ¬ i.a < 0) (ah : ¬ 31 < i.a) (bl : ¬ i.b < 0) (bh : ¬ 31 < i.b) (csrl : ¬ i.csr < 0) (csrh : ¬ 4095 < i.csr) (za : (i.a != 0) = false) (zb : (i.b != 0) = false) (zcsr : (i.csr != 0) = false) (zaq : i.aq = true) (w : World) :
    Calls Tryz.prog 30 #[.agg #[.int .i64 i.op, .int .i64 i.rd, .int .i64 i.a, .int .i64 i.b, .int .i64 i.imm, .int .i64 i.csr, .bool i.aq, .bool i.rl]] w fun e w' => e = .returned (.bool (false)) ∧ Below w.heap.size w w' := by
  have HR : Hid (∀ w, Calls Tryz.prog 31 #[.int .i64 i.op] w fun e w' => e = .returned (.agg #[.string (nameT op), .int .u32 (mskT op), .int .u32 (matT op), .int .u8 74]) ∧ Below w.heap.size w w') := Lib.hid fun w => by rw [hop]; have h := refRow_any op h1 h2 w; rw [hk] at h; exact h
  have Hrd : Hid (∀ w, Calls Tryz.prog 61 #[.int .u8 74, .string ⟨#[85, 74, 73, 72, 87, 82, 76, 65, 67, 90, 86]⟩] w fun e w' => e = .returned (.bool true) ∧ w = w') := Lib.hid fun w => has_rd 1 (by omega) w
  have Ha : Hid (∀ w, Calls Tryz.prog 61 #[.int .u8 74, .string ⟨#[73, 72, 87, 66, 83, 70, 82, 76, 65, 67, 86]⟩] w fun e w' => e = .returned (.bool false) ∧ w = w') := Lib.hid fun w => has_a 1 (by omega) w
  have Hb : Hid (∀ w, Calls Tryz.prog 61 #[.int .u8 74, .string ⟨#[66, 83, 70, 82, 65]⟩] w fun e w' => e = .returned (.bool false) ∧ w = w') := Lib.hid fun w => has_b 1 (by omega) w
  have Hcsr : Hid (∀ w, Calls Tryz.prog 61 #[.int .u8 74, .string ⟨#[67, 90]⟩] w fun e w' => e = .returned (.bool false) ∧ w = w') := Lib.hid fun w => has_csr 1 (by omega) w
  have Hord : Hid (∀ w, Calls Tryz.prog 61 #[.int .u8 74, .string ⟨#[76, 65]⟩] w fun e w' => e = .returned (.bool false) ∧ w = w') := Lib.hid fun w => has_ord 1 (by omega) w
  have o1 : ¬ i.op < 1 := by omega
  have o2 : ¬ 113 < i.op := by omega
  clear h1 h2 hop hk
  generalize nameT op = nm at *
  generalize (mskT op : Int) = mk at *
  generalize (matT op : Int) = mt at *
  go_enter Tryz.func30, Tryz.ntmps30
  go_wp2_with (first
    | (go_at_call 31; (with_reducible refine (HR.out _).mono ?_); rintro e1 w1 ⟨rfl, hb1⟩; have HB1 : Hid (Below w.heap.size w w1) := Lib.hid (((Below.refl _ _).alloc (Nat.le_refl _) _).trans (hb1.mono (by simp))); have hs1 : w.heap.size < w1.heap.size := (by have := hb1.size; simp at this; omega); have HIR : Hid (w1.heap[w.heap.size]? = some (.cells #[.int .i64 i.op, .int .i64 i.rd, .int .i64 i.a, .int .i64 i.b, .int .i64 i.imm, .int .i64 i.csr, .bool true, .bool i.rl] 23 (0, 0))) := Lib.hid ((hb1.block _ (by simp)).trans (heap_alloc_new w _)); have d0 : w1.cell? ⟨w.heap.size, 0, none⟩ = some (.int .i64 i.op) := (by rw [cell_of_row _ _ _ _ _ _ HIR.out]; rfl); have d1 : w1.cell? ⟨w.heap.size, 1, none⟩ = some (.int .i64 i.rd) := (by rw [cell_of_row _ _ _ _ _ _ HIR.out]; rfl); have d2 : w1.cell? ⟨w.heap.size, 2, none⟩ = some (.int .i64 i.a) := (by rw [cell_of_row _ _ _ _ _ _ HIR.out]; rfl); have d3 : w1.cell? ⟨w.heap.size, 3, none⟩ = some (.int .i64 i.b) := (by rw [cell_of_row _ _ _ _ _ _ HIR.out]; rfl); have d4 : w1.cell? ⟨w.heap.size, 4, none⟩ = some (.int .i64 i.imm) := (by rw [cell_of_row _ _ _ _ _ _ HIR.out]; rfl); have d5 : w1.cell? ⟨w.heap.size, 5, none⟩ = some (.int .i64 i.csr) := (by rw [cell_of_row _ _ _ _ _ _ HIR.out]; rfl); have d6 : w1.cell? ⟨w.heap.size, 6, none⟩ = some (.bool true) := (by rw [cell_of_row _ _ _ _ _ _ HIR.out]; rfl); have d7 : w1.cell? ⟨w.heap.size, 7, none⟩ = some (.bool i.rl) := (by rw [cell_of_row _ _ _ _ _ _ HIR.out]; rfl); clear hb1)
    | (go_at_call 61; (with_reducible refine (Hrd.out _).mono ?_); rintro e w3 ⟨rfl, rfl⟩)
    | (go_at_call 61; (with_reducible refine (Ha.out _).mono ?_); rintro e w3 ⟨rfl, rfl⟩)
    | (go_at_call 61; (with_reducible refine (Hb.out _).mono ?_); rintro e w3 ⟨rfl, rfl⟩)
    | (go_at_call 61; (with_reducible refine (Hcsr.out _).mono ?_); rintro e w3 ⟨rfl, rfl⟩)
    | (go_at_call 61; (with_reducible refine (Hord.out _).mono ?_); rintro e w3 ⟨rfl, rfl⟩)
    | (go_at_call 50; (with_reducible refine (refForm_1 _).mono ?_); rintro e w3 ⟨rfl, rfl⟩))
  go_ret
  exact ⟨rfl, HB1.out.alloc HB1.out.size _⟩

set_option maxHeartbeats 2000000 in
theorem right_1_rl (op : Nat) (h1 : 1 ≤ op) (h2 : op ≤ 113) (hk : frmT op = 1) (i : Ins) (hop : i.op = op) (rdl : ¬ i.rd < 0) (rdh : ¬ 31 < i.rd) (al : ¬ i.a < 0) (ah : ¬ 31 < i.a) (bl : ¬ i.b < 0) (bh : ¬ 31 < i.b) (csrl : ¬ i.csr < 0) (csrh : ¬ 4095 < i.csr) (za : (i.a != 0) = false) (zb : (i.b != 0) = false) (zcsr : (i.csr != 0) = false) (zaq : i.aq = false) (zrl : i.rl = true) (w : World) :
    Calls Tryz.prog 30 #[.agg #[.int .i64 i.op, .int .i64 i.rd, .int .i64 i.a, .int .i64 i.b, .int .i64 i.imm, .int .i64 i.csr, .bool i.aq, .bool i.rl]] w fun e w' => e = .returned (.bool (false)) ∧ Below w.heap.size w w' := by
  have HR : Hid (∀ w, Calls Tryz.prog 31 #[.int .i64 i.op] w fun e w' => e = .returned (.agg #[.string (nameT op), .int .u32 (mskT op), .int .u32 (matT op), .int .u8 74]) ∧ Below w.heap.size w w') := Lib.hid fun w => by rw [hop]; have h := refRow_any op h1 h2 w; rw [hk] at h; exact h
  have Hrd : Hid (∀ w, Calls Tryz.prog 61 #[.int .u8 74, .string ⟨#[85, 74, 73, 72, 87, 82, 76, 65, 67, 90, 86]⟩] w fun e w' => e = .returned (.bool true) ∧ w = w') := Lib.hid fun w => has_rd 1 (by omega) w
  have Ha : Hid (∀ w, Calls Tryz.prog 61 #[.int .u8 74, .string ⟨#[73, 72, 87, 66, 83, 70, 82, 76, 65, 67, 86]⟩] w fun e w' => e = .returned (.bool false) ∧ w = w') := Lib.hid fun w => has_a 1 (by omega) w
  have Hb : Hid (∀ w, Calls Tryz.prog 61 #[.int .u8 74, .string ⟨#[66, 83, 70, 82, 65]⟩] w fun e w' => e = .returned (.bool false) ∧ w = w') := Lib.hid fun w => has_b 1 (by omega) w
  have Hcsr : Hid (∀ w, Calls Tryz.prog 61 #[.int .u8 74, .string ⟨#[67, 90]⟩] w fun e w' => e = .returned (.bool false) ∧ w = w') := Lib.hid fun w => has_csr 1 (by omega) w
  have Hord : Hid (∀ w, Calls Tryz.prog 61 #[.int .u8 74, .string ⟨#[76, 65]⟩] w fun e w' => e = .returned (.bool false) ∧ w = w') := Lib.hid fun w => has_ord 1 (by omega) w
  have o1 : ¬ i.op < 1 := by omega
  have o2 : ¬ 113 < i.op := by omega
  clear h1 h2 hop hk
  generalize nameT op = nm at *
  generalize (mskT op : Int) = mk at *
  generalize (matT op : Int) = mt at *
  go_enter Tryz.func30, Tryz.ntmps30
  go_wp2_with (first
    | (go_at_call 31; (with_reducible refine (HR.out _).mono ?_); rintro e1 w1 ⟨rfl, hb1⟩; have HB1 : Hid (Below w.heap.size w w1) := Lib.hid (((Below.refl _ _).alloc (Nat.le_refl _) _).trans (hb1.mono (by simp))); have hs1 : w.heap.size < w1.heap.size := (by have := hb1.size; simp at this; omega); have HIR : Hid (w1.heap[w.heap.size]? = some (.cells #[.int .i64 i.op, .int .i64 i.rd, .int .i64 i.a, .int .i64 i.b, .int .i64 i.imm, .int .i64 i.csr, .bool false, .bool true] 23 (0, 0))) := Lib.hid ((hb1.block _ (by simp)).trans (heap_alloc_new w _)); have d0 : w1.cell? ⟨w.heap.size, 0, none⟩ = some (.int .i64 i.op) := (by rw [cell_of_row _ _ _ _ _ _ HIR.out]; rfl); have d1 : w1.cell? ⟨w.heap.size, 1, none⟩ = some (.int .i64 i.rd) := (by rw [cell_of_row _ _ _ _ _ _ HIR.out]; rfl); have d2 : w1.cell? ⟨w.heap.size, 2, none⟩ = some (.int .i64 i.a) := (by rw [cell_of_row _ _ _ _ _ _ HIR.out]; rfl); have d3 : w1.cell? ⟨w.heap.size, 3, none⟩ = some (.int .i64 i.b) := (by rw [cell_of_row _ _ _ _ _ _ HIR.out]; rfl); have d4 : w1.cell? ⟨w.heap.size, 4, none⟩ = some (.int .i64 i.imm) := (by rw [cell_of_row _ _ _ _ _ _ HIR.out]; rfl); have d5 : w1.cell? ⟨w.heap.size, 5, none⟩ = some (.int .i64 i.csr) := (by rw [cell_of_row _ _ _ _ _ _ HIR.out]; rfl); have d6 : w1.cell? ⟨w.heap.size, 6, none⟩ = some (.bool false) := (by rw [cell_of_row _ _ _ _ _ _ HIR.out]; rfl); have d7 : w1.cell? ⟨w.heap.size, 7, none⟩ = some (.bool true) := (by rw [cell_of_row _ _ _ _ _ _ HIR.out]; rfl); clear hb1)
    | (go_at_call 61; (with_reducible refine (Hrd.out _).mono ?_); rintro e w3 ⟨rfl, rfl⟩)
    | (go_at_call 61; (with_reducible refine (Ha.out _).mono ?_); rintro e w3 ⟨rfl, rfl⟩)
    | (go_at_call 61; (with_reducible refine (Hb.out _).mono ?_); rintro e w3 ⟨rfl, rfl⟩)
    | (go_at_call 61; (with_reducible refine (Hcsr.out _).mono ?_); rintro e w3 ⟨rfl, rfl⟩)
    | (go_at_call 61; (with_reducible refine (Hord.out _).mono ?_); rintro e w3 ⟨rfl, rfl⟩)
    | (go_at_call 50; (with_reducible refine (refForm_1 _).mono ?_); rintro e w3 ⟨rfl, rfl⟩))
  go_ret
  exact ⟨rfl, HB1.out.alloc HB1.out.size _⟩

set_option maxHeartbeats 2000000 in
theorem right_1_end (op : Nat) (h1 : 1 ≤ op) (h2 : op ≤ 113) (hk : frmT op = 1) (i : Ins) (hop : i.op = op) (rdl : ¬ i.rd < 0) (rdh : ¬ 31 < i.rd) (al : ¬ i.a < 0) (ah : ¬ 31 < i.a) (bl : ¬ i.b < 0) (bh : ¬ 31 < i.b) (csrl : ¬ i.csr < 0) (csrh : ¬ 4095 < i.csr) (za : (i.a != 0) = false) (zb : (i.b != 0) = false) (zcsr : (i.csr != 0) = false) (zaq : i.aq = false) (zrl : i.rl = false) (w : World) :
    Calls Tryz.prog 30 #[.agg #[.int .i64 i.op, .int .i64 i.rd, .int .i64 i.a, .int .i64 i.b, .int .i64 i.imm, .int .i64 i.csr, .bool i.aq, .bool i.rl]] w fun e w' => e = .returned (.bool ((formL 5).number ((formL 5).word i.imm) == i.imm)) ∧ Below w.heap.size w w' := by
  have HR : Hid (∀ w, Calls Tryz.prog 31 #[.int .i64 i.op] w fun e w' => e = .returned (.agg #[.string (nameT op), .int .u32 (mskT op), .int .u32 (matT op), .int .u8 74]) ∧ Below w.heap.size w w') := Lib.hid fun w => by rw [hop]; have h := refRow_any op h1 h2 w; rw [hk] at h; exact h
  have Hrd : Hid (∀ w, Calls Tryz.prog 61 #[.int .u8 74, .string ⟨#[85, 74, 73, 72, 87, 82, 76, 65, 67, 90, 86]⟩] w fun e w' => e = .returned (.bool true) ∧ w = w') := Lib.hid fun w => has_rd 1 (by omega) w
  have Ha : Hid (∀ w, Calls Tryz.prog 61 #[.int .u8 74, .string ⟨#[73, 72, 87, 66, 83, 70, 82, 76, 65, 67, 86]⟩] w fun e w' => e = .returned (.bool false) ∧ w = w') := Lib.hid fun w => has_a 1 (by omega) w
  have Hb : Hid (∀ w, Calls Tryz.prog 61 #[.int .u8 74, .string ⟨#[66, 83, 70, 82, 65]⟩] w fun e w' => e = .returned (.bool false) ∧ w = w') := Lib.hid fun w => has_b 1 (by omega) w
  have Hcsr : Hid (∀ w, Calls Tryz.prog 61 #[.int .u8 74, .string ⟨#[67, 90]⟩] w fun e w' => e = .returned (.bool false) ∧ w = w') := Lib.hid fun w => has_csr 1 (by omega) w
  have Hord : Hid (∀ w, Calls Tryz.prog 61 #[.int .u8 74, .string ⟨#[76, 65]⟩] w fun e w' => e = .returned (.bool false) ∧ w = w') := Lib.hid fun w => has_ord 1 (by omega) w
  have HFI : Hid (∀ w, Calls Tryz.prog 49 #[.int .i64 5, .int .i64 i.imm] w fun e w' => e = .returned (.bool ((formL 5).number ((formL 5).word i.imm) == i.imm)) ∧ Below w.heap.size w w') := Lib.hid fun w => refFits_form 5 (by omega) i.imm w
  generalize ((formL 5).number ((formL 5).word i.imm) == i.imm) = r at *
  have o1 : ¬ i.op < 1 := by omega
  have o2 : ¬ 113 < i.op := by omega
  clear h1 h2 hop hk
  generalize nameT op = nm at *
  generalize (mskT op : Int) = mk at *
  generalize (matT op : Int) = mt at *
  go_enter Tryz.func30, Tryz.ntmps30
  go_wp2_with (first
    | (go_at_call 31; (with_reducible refine (HR.out _).mono ?_); rintro e1 w1 ⟨rfl, hb1⟩; have HB1 : Hid (Below w.heap.size w w1) := Lib.hid (((Below.refl _ _).alloc (Nat.le_refl _) _).trans (hb1.mono (by simp))); have hs1 : w.heap.size < w1.heap.size := (by have := hb1.size; simp at this; omega); have HIR : Hid (w1.heap[w.heap.size]? = some (.cells #[.int .i64 i.op, .int .i64 i.rd, .int .i64 i.a, .int .i64 i.b, .int .i64 i.imm, .int .i64 i.csr, .bool false, .bool false] 23 (0, 0))) := Lib.hid ((hb1.block _ (by simp)).trans (heap_alloc_new w _)); have d0 : w1.cell? ⟨w.heap.size, 0, none⟩ = some (.int .i64 i.op) := (by rw [cell_of_row _ _ _ _ _ _ HIR.out]; rfl); have d1 : w1.cell? ⟨w.heap.size, 1, none⟩ = some (.int .i64 i.rd) := (by rw [cell_of_row _ _ _ _ _ _ HIR.out]; rfl); have d2 : w1.cell? ⟨w.heap.size, 2, none⟩ = some (.int .i64 i.a) := (by rw [cell_of_row _ _ _ _ _ _ HIR.out]; rfl); have d3 : w1.cell? ⟨w.heap.size, 3, none⟩ = some (.int .i64 i.b) := (by rw [cell_of_row _ _ _ _ _ _ HIR.out]; rfl); have d4 : w1.cell? ⟨w.heap.size, 4, none⟩ = some (.int .i64 i.imm) := (by rw [cell_of_row _ _ _ _ _ _ HIR.out]; rfl); have d5 : w1.cell? ⟨w.heap.size, 5, none⟩ = some (.int .i64 i.csr) := (by rw [cell_of_row _ _ _ _ _ _ HIR.out]; rfl); have d6 : w1.cell? ⟨w.heap.size, 6, none⟩ = some (.bool false) := (by rw [cell_of_row _ _ _ _ _ _ HIR.out]; rfl); have d7 : w1.cell? ⟨w.heap.size, 7, none⟩ = some (.bool false) := (by rw [cell_of_row _ _ _ _ _ _ HIR.out]; rfl); clear hb1)
    | (go_at_call 61; (with_reducible refine (Hrd.out _).mono ?_); rintro e w3 ⟨rfl, rfl⟩)
    | (go_at_call 61; (with_reducible refine (Ha.out _).mono ?_); rintro e w3 ⟨rfl, rfl⟩)
    | (go_at_call 61; (with_reducible refine (Hb.out _).mono ?_); rintro e w3 ⟨rfl, rfl⟩)
    | (go_at_call 61; (with_reducible refine (Hcsr.out _).mono ?_); rintro e w3 ⟨rfl, rfl⟩)
    | (go_at_call 61; (with_reducible refine (Hord.out _).mono ?_); rintro e w3 ⟨rfl, rfl⟩)
    | (go_at_call 50; (with_reducible refine (refForm_1 _).mono ?_); rintro e w3 ⟨rfl, rfl⟩))
  have HB2 : Hid (Below w.heap.size w (w1.alloc (.cells #[.string nm, .int .u32 mk, .int .u32 mt, .int .u8 74] 59))) := Lib.hid (HB1.out.alloc HB1.out.size _)
  have q3 : (w1.alloc (.cells #[.string nm, .int .u32 mk, .int .u32 mt, .int .u8 74] 59)).cell? ⟨w1.heap.size, 3, none⟩ = some (.int .u8 74) := World.cell?_alloc_at _ _ _ _ rfl
  have q4 : (w1.alloc (.cells #[.string nm, .int .u32 mk, .int .u32 mt, .int .u8 74] 59)).cell? ⟨w.heap.size, 4, none⟩ = some (.int .i64 i.imm) := by go_simp
  have s1 : w1.heap.size < (w1.alloc (.cells #[.string nm, .int .u32 mk, .int .u32 mt, .int .u8 74] 59)).heap.size := by rw [World.size_alloc]; omega
  have s2 : w.heap.size < (w1.alloc (.cells #[.string nm, .int .u32 mk, .int .u32 mt, .int .u8 74] 59)).heap.size := by rw [World.size_alloc]; omega
  clear d0 d1 d2 d3 d4 d5 d6 d7 HIR HB1
  generalize hw2 : (w1.alloc (.cells #[.string nm, .int .u32 mk, .int .u32 mt, .int .u8 74] 59)) = w2 at *
  clear hw2
  generalize w1.heap.size = m at *
  generalize hn : w.heap.size = n at *
  have HNN := Lib.hid hn
  clear hn
  go_region_held3 (fun w' => w'.cell? ⟨m, 3, none⟩ = some (.int .u8 74) ∧ w'.cell? ⟨n, 4, none⟩ = some (.int .i64 i.imm)) (go_keep)
    (first
      | (go_at_call 50; refine (refForm_1 _).mono ?_; rintro e w3 ⟨rfl, rfl⟩)
      | (go_at_call 49; refine (HFI.out _).mono ?_; rintro e w4 ⟨rfl, hb4⟩; have g3 := (hb4.cell (p := ⟨m, 3, none⟩) s1).trans q3; have g4 := (hb4.cell (p := ⟨n, 4, none⟩) s2).trans q4; have HB4 := Lib.hid (HB2.out.trans (((Below.refl _ _).drew.trans hb4).mono (Nat.le_of_lt s2))); clear hb4))
  go_wp2
  go_ret
  exact ⟨rfl, by rw [HNN.out]; exact HB4.out⟩

set_option maxHeartbeats 2000000 in
theorem right_2_b (op : Nat) (h1 : 1 ≤ op) (h2 : op ≤ 113) (hk : frmT op = 2) (i : Ins) (hop : i.op = op) (rdl : ¬ i.rd < 0) (rdh : ¬ 31 < i.rd) (al : ¬ i.a < 0) (ah : ¬ 31 < i.a) (bl : ¬ i.b < 0) (bh : ¬ 31 < i.b) (csrl : ¬ i.csr < 0) (csrh : ¬ 4095 < i.csr) (zb : (i.b != 0) = true) (w : World) :
    Calls Tryz.prog 30 #[.agg #[.int .i64 i.op, .int .i64 i.rd, .int .i64 i.a, .int .i64 i.b, .int .i64 i.imm, .int .i64 i.csr, .bool i.aq, .bool i.rl]] w fun e w' => e = .returned (.bool (false)) ∧ Below w.heap.size w w' := by
  have HR : Hid (∀ w, Calls Tryz.prog 31 #[.int .i64 i.op] w fun e w' => e = .returned (.agg #[.string (nameT op), .int .u32 (mskT op), .int .u32 (matT op), .int .u8 73]) ∧ Below w.heap.size w w') := Lib.hid fun w => by rw [hop]; have h := refRow_any op h1 h2 w; rw [hk] at h; exact h
  have Hrd : Hid (∀ w, Calls Tryz.prog 61 #[.int .u8 73, .string ⟨#[85, 74, 73, 72, 87, 82, 76, 65, 67, 90, 86]⟩] w fun e w' => e = .returned (.bool true) ∧ w = w') := Lib.hid fun w => has_rd 2 (by omega) w
  have Ha : Hid (∀ w, Calls Tryz.prog 61 #[.int .u8 73, .string ⟨#[73, 72, 87, 66, 83, 70, 82, 76, 65, 67, 86]⟩] w fun e w' => e = .returned (.bool true) ∧ w = w') := Lib.hid fun w => has_a 2 (by omega) w
  have Hb : Hid (∀ w, Calls Tryz.prog 61 #[.int .u8 73, .string ⟨#[66, 83, 70, 82, 65]⟩] w fun e w' => e = .returned (.bool false) ∧ w = w') := Lib.hid fun w => has_b 2 (by omega) w
  have Hcsr : Hid (∀ w, Calls Tryz.prog 61 #[.int .u8 73, .string ⟨#[67, 90]⟩] w fun e w' => e = .returned (.bool false) ∧ w = w') := Lib.hid fun w => has_csr 2 (by omega) w
  have Hord : Hid (∀ w, Calls Tryz.prog 61 #[.int .u8 73, .string ⟨#[76, 65]⟩] w fun e w' => e = .returned (.bool false) ∧ w = w') := Lib.hid fun w => has_ord 2 (by omega) w
  have o1 : ¬ i.op < 1 := by omega
  have o2 : ¬ 113 < i.op := by omega
  clear h1 h2 hop hk
  generalize nameT op = nm at *
  generalize (mskT op : Int) = mk at *
  generalize (matT op : Int) = mt at *
  go_enter Tryz.func30, Tryz.ntmps30
  go_wp2_with (first
    | (go_at_call 31; (with_reducible refine (HR.out _).mono ?_); rintro e1 w1 ⟨rfl, hb1⟩; have HB1 : Hid (Below w.heap.size w w1) := Lib.hid (((Below.refl _ _).alloc (Nat.le_refl _) _).trans (hb1.mono (by simp))); have hs1 : w.heap.size < w1.heap.size := (by have := hb1.size; simp at this; omega); have HIR : Hid (w1.heap[w.heap.size]? = some (.cells #[.int .i64 i.op, .int .i64 i.rd, .int .i64 i.a, .int .i64 i.b, .int .i64 i.imm, .int .i64 i.csr, .bool i.aq, .bool i.rl] 23 (0, 0))) := Lib.hid ((hb1.block _ (by simp)).trans (heap_alloc_new w _)); have d0 : w1.cell? ⟨w.heap.size, 0, none⟩ = some (.int .i64 i.op) := (by rw [cell_of_row _ _ _ _ _ _ HIR.out]; rfl); have d1 : w1.cell? ⟨w.heap.size, 1, none⟩ = some (.int .i64 i.rd) := (by rw [cell_of_row _ _ _ _ _ _ HIR.out]; rfl); have d2 : w1.cell? ⟨w.heap.size, 2, none⟩ = some (.int .i64 i.a) := (by rw [cell_of_row _ _ _ _ _ _ HIR.out]; rfl); have d3 : w1.cell? ⟨w.heap.size, 3, none⟩ = some (.int .i64 i.b) := (by rw [cell_of_row _ _ _ _ _ _ HIR.out]; rfl); have d4 : w1.cell? ⟨w.heap.size, 4, none⟩ = some (.int .i64 i.imm) := (by rw [cell_of_row _ _ _ _ _ _ HIR.out]; rfl); have d5 : w1.cell? ⟨w.heap.size, 5, none⟩ = some (.int .i64 i.csr) := (by rw [cell_of_row _ _ _ _ _ _ HIR.out]; rfl); have d6 : w1.cell? ⟨w.heap.size, 6, none⟩ = some (.bool i.aq) := (by rw [cell_of_row _ _ _ _ _ _ HIR.out]; rfl); have d7 : w1.cell? ⟨w.heap.size, 7, none⟩ = some (.bool i.rl) := (by rw [cell_of_row _ _ _ _ _ _ HIR.out]; rfl); clear hb1)
    | (go_at_call 61; (with_reducible refine (Hrd.out _).mono ?_); rintro e w3 ⟨rfl, rfl⟩)
    | (go_at_call 61; (with_reducible refine (Ha.out _).mono ?_); rintro e w3 ⟨rfl, rfl⟩)
    | (go_at_call 61; (with_reducible refine (Hb.out _).mono ?_); rintro e w3 ⟨rfl, rfl⟩)
    | (go_at_call 61; (with_reducible refine (Hcsr.out _).mono ?_); rintro e w3 ⟨rfl, rfl⟩)
    | (go_at_call 61; (with_reducible refine (Hord.out _).mono ?_); rintro e w3 ⟨rfl, rfl⟩)
    | (go_at_call 50; (with_reducible refine (refForm_2 _).mono ?_); rintro e w3 ⟨rfl, rfl⟩))
  go_ret
  exact ⟨rfl, HB1.out.alloc HB1.out.size _⟩

set_option maxHeartbeats 2000000 in
theorem right_2_csr (op : Nat) (h1 : 1 ≤ op) (h2 : op ≤ 113) (hk : frmT op = 2) (i : Ins) (hop : i.op = op) (rdl : ¬ i.rd < 0) (rdh : ¬ 31 < i.rd) (al : ¬ i.a < 0) (ah : ¬ 31 < i.a) (bl : ¬ i.b < 0) (bh : ¬ 31 < i.b) (csrl : ¬ i.csr < 0) (csrh : ¬ 4095 < i.csr) (zb : (i.b != 0) = false) (zcsr : (i.csr != 0) = true) (w : World) :
    Calls Tryz.prog 30 #[.agg #[.int .i64 i.op, .int .i64 i.rd, .int .i64 i.a, .int .i64 i.b, .int .i64 i.imm, .int .i64 i.csr, .bool i.aq, .bool i.rl]] w fun e w' => e = .returned (.bool (false)) ∧ Below w.heap.size w w' := by
  have HR : Hid (∀ w, Calls Tryz.prog 31 #[.int .i64 i.op] w fun e w' => e = .returned (.agg #[.string (nameT op), .int .u32 (mskT op), .int .u32 (matT op), .int .u8 73]) ∧ Below w.heap.size w w') := Lib.hid fun w => by rw [hop]; have h := refRow_any op h1 h2 w; rw [hk] at h; exact h
  have Hrd : Hid (∀ w, Calls Tryz.prog 61 #[.int .u8 73, .string ⟨#[85, 74, 73, 72, 87, 82, 76, 65, 67, 90, 86]⟩] w fun e w' => e = .returned (.bool true) ∧ w = w') := Lib.hid fun w => has_rd 2 (by omega) w
  have Ha : Hid (∀ w, Calls Tryz.prog 61 #[.int .u8 73, .string ⟨#[73, 72, 87, 66, 83, 70, 82, 76, 65, 67, 86]⟩] w fun e w' => e = .returned (.bool true) ∧ w = w') := Lib.hid fun w => has_a 2 (by omega) w
  have Hb : Hid (∀ w, Calls Tryz.prog 61 #[.int .u8 73, .string ⟨#[66, 83, 70, 82, 65]⟩] w fun e w' => e = .returned (.bool false) ∧ w = w') := Lib.hid fun w => has_b 2 (by omega) w
  have Hcsr : Hid (∀ w, Calls Tryz.prog 61 #[.int .u8 73, .string ⟨#[67, 90]⟩] w fun e w' => e = .returned (.bool false) ∧ w = w') := Lib.hid fun w => has_csr 2 (by omega) w
  have Hord : Hid (∀ w, Calls Tryz.prog 61 #[.int .u8 73, .string ⟨#[76, 65]⟩] w fun e w' => e = .returned (.bool false) ∧ w = w') := Lib.hid fun w => has_ord 2 (by omega) w
  have o1 : ¬ i.op < 1 := by omega
  have o2 : ¬ 113 < i.op := by omega
  clear h1 h2 hop hk
  generalize nameT op = nm at *
  generalize (mskT op : Int) = mk at *
  generalize (matT op : Int) = mt at *
  go_enter Tryz.func30, Tryz.ntmps30
  go_wp2_with (first
    | (go_at_call 31; (with_reducible refine (HR.out _).mono ?_); rintro e1 w1 ⟨rfl, hb1⟩; have HB1 : Hid (Below w.heap.size w w1) := Lib.hid (((Below.refl _ _).alloc (Nat.le_refl _) _).trans (hb1.mono (by simp))); have hs1 : w.heap.size < w1.heap.size := (by have := hb1.size; simp at this; omega); have HIR : Hid (w1.heap[w.heap.size]? = some (.cells #[.int .i64 i.op, .int .i64 i.rd, .int .i64 i.a, .int .i64 i.b, .int .i64 i.imm, .int .i64 i.csr, .bool i.aq, .bool i.rl] 23 (0, 0))) := Lib.hid ((hb1.block _ (by simp)).trans (heap_alloc_new w _)); have d0 : w1.cell? ⟨w.heap.size, 0, none⟩ = some (.int .i64 i.op) := (by rw [cell_of_row _ _ _ _ _ _ HIR.out]; rfl); have d1 : w1.cell? ⟨w.heap.size, 1, none⟩ = some (.int .i64 i.rd) := (by rw [cell_of_row _ _ _ _ _ _ HIR.out]; rfl); have d2 : w1.cell? ⟨w.heap.size, 2, none⟩ = some (.int .i64 i.a) := (by rw [cell_of_row _ _ _ _ _ _ HIR.out]; rfl); have d3 : w1.cell? ⟨w.heap.size, 3, none⟩ = some (.int .i64 i.b) := (by rw [cell_of_row _ _ _ _ _ _ HIR.out]; rfl); have d4 : w1.cell? ⟨w.heap.size, 4, none⟩ = some (.int .i64 i.imm) := (by rw [cell_of_row _ _ _ _ _ _ HIR.out]; rfl); have d5 : w1.cell? ⟨w.heap.size, 5, none⟩ = some (.int .i64 i.csr) := (by rw [cell_of_row _ _ _ _ _ _ HIR.out]; rfl); have d6 : w1.cell? ⟨w.heap.size, 6, none⟩ = some (.bool i.aq) := (by rw [cell_of_row _ _ _ _ _ _ HIR.out]; rfl); have d7 : w1.cell? ⟨w.heap.size, 7, none⟩ = some (.bool i.rl) := (by rw [cell_of_row _ _ _ _ _ _ HIR.out]; rfl); clear hb1)
    | (go_at_call 61; (with_reducible refine (Hrd.out _).mono ?_); rintro e w3 ⟨rfl, rfl⟩)
    | (go_at_call 61; (with_reducible refine (Ha.out _).mono ?_); rintro e w3 ⟨rfl, rfl⟩)
    | (go_at_call 61; (with_reducible refine (Hb.out _).mono ?_); rintro e w3 ⟨rfl, rfl⟩)
    | (go_at_call 61; (with_reducible refine (Hcsr.out _).mono ?_); rintro e w3 ⟨rfl, rfl⟩)
    | (go_at_call 61; (with_reducible refine (Hord.out _).mono ?_); rintro e w3 ⟨rfl, rfl⟩)
    | (go_at_call 50; (with_reducible refine (refForm_2 _).mono ?_); rintro e w3 ⟨rfl, rfl⟩))
  go_ret
  exact ⟨rfl, HB1.out.alloc HB1.out.size _⟩

set_option maxHeartbeats 2000000 in
theorem right_2_aq (op : Nat) (h1 : 1 ≤ op) (h2 : op ≤ 113) (hk : frmT op = 2) (i : Ins) (hop : i.op = op) (rdl : ¬ i.rd < 0) (rdh : ¬ 31 < i.rd) (al : ¬ i.a < 0) (ah : ¬ 31 < i.a) (bl : ¬ i.b < 0) (bh : ¬ 31 < i.b) (csrl : ¬ i.csr < 0) (csrh : ¬ 4095 < i.csr) (zb : (i.b != 0) = false) (zcsr : (i.csr != 0) = false) (zaq : i.aq = true) (w : World) :
    Calls Tryz.prog 30 #[.agg #[.int .i64 i.op, .int .i64 i.rd, .int .i64 i.a, .int .i64 i.b, .int .i64 i.imm, .int .i64 i.csr, .bool i.aq, .bool i.rl]] w fun e w' => e = .returned (.bool (false)) ∧ Below w.heap.size w w' := by
  have HR : Hid (∀ w, Calls Tryz.prog 31 #[.int .i64 i.op] w fun e w' => e = .returned (.agg #[.string (nameT op), .int .u32 (mskT op), .int .u32 (matT op), .int .u8 73]) ∧ Below w.heap.size w w') := Lib.hid fun w => by rw [hop]; have h := refRow_any op h1 h2 w; rw [hk] at h; exact h
  have Hrd : Hid (∀ w, Calls Tryz.prog 61 #[.int .u8 73, .string ⟨#[85, 74, 73, 72, 87, 82, 76, 65, 67, 90, 86]⟩] w fun e w' => e = .returned (.bool true) ∧ w = w') := Lib.hid fun w => has_rd 2 (by omega) w
  have Ha : Hid (∀ w, Calls Tryz.prog 61 #[.int .u8 73, .string ⟨#[73, 72, 87, 66, 83, 70, 82, 76, 65, 67, 86]⟩] w fun e w' => e = .returned (.bool true) ∧ w = w') := Lib.hid fun w => has_a 2 (by omega) w
  have Hb : Hid (∀ w, Calls Tryz.prog 61 #[.int .u8 73, .string ⟨#[66, 83, 70, 82, 65]⟩] w fun e w' => e = .returned (.bool false) ∧ w = w') := Lib.hid fun w => has_b 2 (by omega) w
  have Hcsr : Hid (∀ w, Calls Tryz.prog 61 #[.int .u8 73, .string ⟨#[67, 90]⟩] w fun e w' => e = .returned (.bool false) ∧ w = w') := Lib.hid fun w => has_csr 2 (by omega) w
  have Hord : Hid (∀ w, Calls Tryz.prog 61 #[.int .u8 73, .string ⟨#[76, 65]⟩] w fun e w' => e = .returned (.bool false) ∧ w = w') := Lib.hid fun w => has_ord 2 (by omega) w
  have o1 : ¬ i.op < 1 := by omega
  have o2 : ¬ 113 < i.op := by omega
  clear h1 h2 hop hk
  generalize nameT op = nm at *
  generalize (mskT op : Int) = mk at *
  generalize (matT op : Int) = mt at *
  go_enter Tryz.func30, Tryz.ntmps30
  go_wp2_with (first
    | (go_at_call 31; (with_reducible refine (HR.out _).mono ?_); rintro e1 w1 ⟨rfl, hb1⟩; have HB1 : Hid (Below w.heap.size w w1) := Lib.hid (((Below.refl _ _).alloc (Nat.le_refl _) _).trans (hb1.mono (by simp))); have hs1 : w.heap.size < w1.heap.size := (by have := hb1.size; simp at this; omega); have HIR : Hid (w1.heap[w.heap.size]? = some (.cells #[.int .i64 i.op, .int .i64 i.rd, .int .i64 i.a, .int .i64 i.b, .int .i64 i.imm, .int .i64 i.csr, .bool true, .bool i.rl] 23 (0, 0))) := Lib.hid ((hb1.block _ (by simp)).trans (heap_alloc_new w _)); have d0 : w1.cell? ⟨w.heap.size, 0, none⟩ = some (.int .i64 i.op) := (by rw [cell_of_row _ _ _ _ _ _ HIR.out]; rfl); have d1 : w1.cell? ⟨w.heap.size, 1, none⟩ = some (.int .i64 i.rd) := (by rw [cell_of_row _ _ _ _ _ _ HIR.out]; rfl); have d2 : w1.cell? ⟨w.heap.size, 2, none⟩ = some (.int .i64 i.a) := (by rw [cell_of_row _ _ _ _ _ _ HIR.out]; rfl); have d3 : w1.cell? ⟨w.heap.size, 3, none⟩ = some (.int .i64 i.b) := (by rw [cell_of_row _ _ _ _ _ _ HIR.out]; rfl); have d4 : w1.cell? ⟨w.heap.size, 4, none⟩ = some (.int .i64 i.imm) := (by rw [cell_of_row _ _ _ _ _ _ HIR.out]; rfl); have d5 : w1.cell? ⟨w.heap.size, 5, none⟩ = some (.int .i64 i.csr) := (by rw [cell_of_row _ _ _ _ _ _ HIR.out]; rfl); have d6 : w1.cell? ⟨w.heap.size, 6, none⟩ = some (.bool true) := (by rw [cell_of_row _ _ _ _ _ _ HIR.out]; rfl); have d7 : w1.cell? ⟨w.heap.size, 7, none⟩ = some (.bool i.rl) := (by rw [cell_of_row _ _ _ _ _ _ HIR.out]; rfl); clear hb1)
    | (go_at_call 61; (with_reducible refine (Hrd.out _).mono ?_); rintro e w3 ⟨rfl, rfl⟩)
    | (go_at_call 61; (with_reducible refine (Ha.out _).mono ?_); rintro e w3 ⟨rfl, rfl⟩)
    | (go_at_call 61; (with_reducible refine (Hb.out _).mono ?_); rintro e w3 ⟨rfl, rfl⟩)
    | (go_at_call 61; (with_reducible refine (Hcsr.out _).mono ?_); rintro e w3 ⟨rfl, rfl⟩)
    | (go_at_call 61; (with_reducible refine (Hord.out _).mono ?_); rintro e w3 ⟨rfl, rfl⟩)
    | (go_at_call 50; (with_reducible refine (refForm_2 _).mono ?_); rintro e w3 ⟨rfl, rfl⟩))
  go_ret
  exact ⟨rfl, HB1.out.alloc HB1.out.size _⟩

set_option maxHeartbeats 2000000 in
theorem right_2_rl (op : Nat) (h1 : 1 ≤ op) (h2 : op ≤ 113) (hk : frmT op = 2) (i : Ins) (hop : i.op = op) (rdl : ¬ i.rd < 0) (rdh : ¬ 31 < i.rd) (al : ¬ i.a < 0) (ah : ¬ 31 < i.a) (bl : ¬ i.b < 0) (bh : ¬ 31 < i.b) (csrl : ¬ i.csr < 0) (csrh : ¬ 4095 < i.csr) (zb : (i.b != 0) = false) (zcsr : (i.csr != 0) = false) (zaq : i.aq = false) (zrl : i.rl = true) (w : World) :
    Calls Tryz.prog 30 #[.agg #[.int .i64 i.op, .int .i64 i.rd, .int .i64 i.a, .int .i64 i.b, .int .i64 i.imm, .int .i64 i.csr, .bool i.aq, .bool i.rl]] w fun e w' => e = .returned (.bool (false)) ∧ Below w.heap.size w w' := by
  have HR : Hid (∀ w, Calls Tryz.prog 31 #[.int .i64 i.op] w fun e w' => e = .returned (.agg #[.string (nameT op), .int .u32 (mskT op), .int .u32 (matT op), .int .u8 73]) ∧ Below w.heap.size w w') := Lib.hid fun w => by rw [hop]; have h := refRow_any op h1 h2 w; rw [hk] at h; exact h
  have Hrd : Hid (∀ w, Calls Tryz.prog 61 #[.int .u8 73, .string ⟨#[85, 74, 73, 72, 87, 82, 76, 65, 67, 90, 86]⟩] w fun e w' => e = .returned (.bool true) ∧ w = w') := Lib.hid fun w => has_rd 2 (by omega) w
  have Ha : Hid (∀ w, Calls Tryz.prog 61 #[.int .u8 73, .string ⟨#[73, 72, 87, 66, 83, 70, 82, 76, 65, 67, 86]⟩] w fun e w' => e = .returned (.bool true) ∧ w = w') := Lib.hid fun w => has_a 2 (by omega) w
  have Hb : Hid (∀ w, Calls Tryz.prog 61 #[.int .u8 73, .string ⟨#[66, 83, 70, 82, 65]⟩] w fun e w' => e = .returned (.bool false) ∧ w = w') := Lib.hid fun w => has_b 2 (by omega) w
  have Hcsr : Hid (∀ w, Calls Tryz.prog 61 #[.int .u8 73, .string ⟨#[67, 90]⟩] w fun e w' => e = .returned (.bool false) ∧ w = w') := Lib.hid fun w => has_csr 2 (by omega) w
  have Hord : Hid (∀ w, Calls Tryz.prog 61 #[.int .u8 73, .string ⟨#[76, 65]⟩] w fun e w' => e = .returned (.bool false) ∧ w = w') := Lib.hid fun w => has_ord 2 (by omega) w
  have o1 : ¬ i.op < 1 := by omega
  have o2 : ¬ 113 < i.op := by omega
  clear h1 h2 hop hk
  generalize nameT op = nm at *
  generalize (mskT op : Int) = mk at *
  generalize (matT op : Int) = mt at *
  go_enter Tryz.func30, Tryz.ntmps30
  go_wp2_with (first
    | (go_at_call 31; (with_reducible refine (HR.out _).mono ?_); rintro e1 w1 ⟨rfl, hb1⟩; have HB1 : Hid (Below w.heap.size w w1) := Lib.hid (((Below.refl _ _).alloc (Nat.le_refl _) _).trans (hb1.mono (by simp))); have hs1 : w.heap.size < w1.heap.size := (by have := hb1.size; simp at this; omega); have HIR : Hid (w1.heap[w.heap.size]? = some (.cells #[.int .i64 i.op, .int .i64 i.rd, .int .i64 i.a, .int .i64 i.b, .int .i64 i.imm, .int .i64 i.csr, .bool false, .bool true] 23 (0, 0))) := Lib.hid ((hb1.block _ (by simp)).trans (heap_alloc_new w _)); have d0 : w1.cell? ⟨w.heap.size, 0, none⟩ = some (.int .i64 i.op) := (by rw [cell_of_row _ _ _ _ _ _ HIR.out]; rfl); have d1 : w1.cell? ⟨w.heap.size, 1, none⟩ = some (.int .i64 i.rd) := (by rw [cell_of_row _ _ _ _ _ _ HIR.out]; rfl); have d2 : w1.cell? ⟨w.heap.size, 2, none⟩ = some (.int .i64 i.a) := (by rw [cell_of_row _ _ _ _ _ _ HIR.out]; rfl); have d3 : w1.cell? ⟨w.heap.size, 3, none⟩ = some (.int .i64 i.b) := (by rw [cell_of_row _ _ _ _ _ _ HIR.out]; rfl); have d4 : w1.cell? ⟨w.heap.size, 4, none⟩ = some (.int .i64 i.imm) := (by rw [cell_of_row _ _ _ _ _ _ HIR.out]; rfl); have d5 : w1.cell? ⟨w.heap.size, 5, none⟩ = some (.int .i64 i.csr) := (by rw [cell_of_row _ _ _ _ _ _ HIR.out]; rfl); have d6 : w1.cell? ⟨w.heap.size, 6, none⟩ = some (.bool false) := (by rw [cell_of_row _ _ _ _ _ _ HIR.out]; rfl); have d7 : w1.cell? ⟨w.heap.size, 7, none⟩ = some (.bool true) := (by rw [cell_of_row _ _ _ _ _ _ HIR.out]; rfl); clear hb1)
    | (go_at_call 61; (with_reducible refine (Hrd.out _).mono ?_); rintro e w3 ⟨rfl, rfl⟩)
    | (go_at_call 61; (with_reducible refine (Ha.out _).mono ?_); rintro e w3 ⟨rfl, rfl⟩)
    | (go_at_call 61; (with_reducible refine (Hb.out _).mono ?_); rintro e w3 ⟨rfl, rfl⟩)
    | (go_at_call 61; (with_reducible refine (Hcsr.out _).mono ?_); rintro e w3 ⟨rfl, rfl⟩)
    | (go_at_call 61; (with_reducible refine (Hord.out _).mono ?_); rintro e w3 ⟨rfl, rfl⟩)
    | (go_at_call 50; (with_reducible refine (refForm_2 _).mono ?_); rintro e w3 ⟨rfl, rfl⟩))
  go_ret
  exact ⟨rfl, HB1.out.alloc HB1.out.size _⟩

set_option maxHeartbeats 2000000 in
theorem right_2_end (op : Nat) (h1 : 1 ≤ op) (h2 : op ≤ 113) (hk : frmT op = 2) (i : Ins) (hop : i.op = op) (rdl : ¬ i.rd < 0) (rdh : ¬ 31 < i.rd) (al : ¬ i.a < 0) (ah : ¬ 31 < i.a) (bl : ¬ i.b < 0) (bh : ¬ 31 < i.b) (csrl : ¬ i.csr < 0) (csrh : ¬ 4095 < i.csr) (zb : (i.b != 0) = false) (zcsr : (i.csr != 0) = false) (zaq : i.aq = false) (zrl : i.rl = false) (w : World) :
    Calls Tryz.prog 30 #[.agg #[.int .i64 i.op, .int .i64 i.rd, .int .i64 i.a, .int .i64 i.b, .int .i64 i.imm, .int .i64 i.csr, .bool i.aq, .bool i.rl]] w fun e w' => e = .returned (.bool ((formL 1).number ((formL 1).word i.imm) == i.imm)) ∧ Below w.heap.size w w' := by
  have HR : Hid (∀ w, Calls Tryz.prog 31 #[.int .i64 i.op] w fun e w' => e = .returned (.agg #[.string (nameT op), .int .u32 (mskT op), .int .u32 (matT op), .int .u8 73]) ∧ Below w.heap.size w w') := Lib.hid fun w => by rw [hop]; have h := refRow_any op h1 h2 w; rw [hk] at h; exact h
  have Hrd : Hid (∀ w, Calls Tryz.prog 61 #[.int .u8 73, .string ⟨#[85, 74, 73, 72, 87, 82, 76, 65, 67, 90, 86]⟩] w fun e w' => e = .returned (.bool true) ∧ w = w') := Lib.hid fun w => has_rd 2 (by omega) w
  have Ha : Hid (∀ w, Calls Tryz.prog 61 #[.int .u8 73, .string ⟨#[73, 72, 87, 66, 83, 70, 82, 76, 65, 67, 86]⟩] w fun e w' => e = .returned (.bool true) ∧ w = w') := Lib.hid fun w => has_a 2 (by omega) w
  have Hb : Hid (∀ w, Calls Tryz.prog 61 #[.int .u8 73, .string ⟨#[66, 83, 70, 82, 65]⟩] w fun e w' => e = .returned (.bool false) ∧ w = w') := Lib.hid fun w => has_b 2 (by omega) w
  have Hcsr : Hid (∀ w, Calls Tryz.prog 61 #[.int .u8 73, .string ⟨#[67, 90]⟩] w fun e w' => e = .returned (.bool false) ∧ w = w') := Lib.hid fun w => has_csr 2 (by omega) w
  have Hord : Hid (∀ w, Calls Tryz.prog 61 #[.int .u8 73, .string ⟨#[76, 65]⟩] w fun e w' => e = .returned (.bool false) ∧ w = w') := Lib.hid fun w => has_ord 2 (by omega) w
  have HFI : Hid (∀ w, Calls Tryz.prog 49 #[.int .i64 1, .int .i64 i.imm] w fun e w' => e = .returned (.bool ((formL 1).number ((formL 1).word i.imm) == i.imm)) ∧ Below w.heap.size w w') := Lib.hid fun w => refFits_form 1 (by omega) i.imm w
  generalize ((formL 1).number ((formL 1).word i.imm) == i.imm) = r at *
  have o1 : ¬ i.op < 1 := by omega
  have o2 : ¬ 113 < i.op := by omega
  clear h1 h2 hop hk
  generalize nameT op = nm at *
  generalize (mskT op : Int) = mk at *
  generalize (matT op : Int) = mt at *
  go_enter Tryz.func30, Tryz.ntmps30
  go_wp2_with (first
    | (go_at_call 31; (with_reducible refine (HR.out _).mono ?_); rintro e1 w1 ⟨rfl, hb1⟩; have HB1 : Hid (Below w.heap.size w w1) := Lib.hid (((Below.refl _ _).alloc (Nat.le_refl _) _).trans (hb1.mono (by simp))); have hs1 : w.heap.size < w1.heap.size := (by have := hb1.size; simp at this; omega); have HIR : Hid (w1.heap[w.heap.size]? = some (.cells #[.int .i64 i.op, .int .i64 i.rd, .int .i64 i.a, .int .i64 i.b, .int .i64 i.imm, .int .i64 i.csr, .bool false, .bool false] 23 (0, 0))) := Lib.hid ((hb1.block _ (by simp)).trans (heap_alloc_new w _)); have d0 : w1.cell? ⟨w.heap.size, 0, none⟩ = some (.int .i64 i.op) := (by rw [cell_of_row _ _ _ _ _ _ HIR.out]; rfl); have d1 : w1.cell? ⟨w.heap.size, 1, none⟩ = some (.int .i64 i.rd) := (by rw [cell_of_row _ _ _ _ _ _ HIR.out]; rfl); have d2 : w1.cell? ⟨w.heap.size, 2, none⟩ = some (.int .i64 i.a) := (by rw [cell_of_row _ _ _ _ _ _ HIR.out]; rfl); have d3 : w1.cell? ⟨w.heap.size, 3, none⟩ = some (.int .i64 i.b) := (by rw [cell_of_row _ _ _ _ _ _ HIR.out]; rfl); have d4 : w1.cell? ⟨w.heap.size, 4, none⟩ = some (.int .i64 i.imm) := (by rw [cell_of_row _ _ _ _ _ _ HIR.out]; rfl); have d5 : w1.cell? ⟨w.heap.size, 5, none⟩ = some (.int .i64 i.csr) := (by rw [cell_of_row _ _ _ _ _ _ HIR.out]; rfl); have d6 : w1.cell? ⟨w.heap.size, 6, none⟩ = some (.bool false) := (by rw [cell_of_row _ _ _ _ _ _ HIR.out]; rfl); have d7 : w1.cell? ⟨w.heap.size, 7, none⟩ = some (.bool false) := (by rw [cell_of_row _ _ _ _ _ _ HIR.out]; rfl); clear hb1)
    | (go_at_call 61; (with_reducible refine (Hrd.out _).mono ?_); rintro e w3 ⟨rfl, rfl⟩)
    | (go_at_call 61; (with_reducible refine (Ha.out _).mono ?_); rintro e w3 ⟨rfl, rfl⟩)
    | (go_at_call 61; (with_reducible refine (Hb.out _).mono ?_); rintro e w3 ⟨rfl, rfl⟩)
    | (go_at_call 61; (with_reducible refine (Hcsr.out _).mono ?_); rintro e w3 ⟨rfl, rfl⟩)
    | (go_at_call 61; (with_reducible refine (Hord.out _).mono ?_); rintro e w3 ⟨rfl, rfl⟩)
    | (go_at_call 50; (with_reducible refine (refForm_2 _).mono ?_); rintro e w3 ⟨rfl, rfl⟩))
  have HB2 : Hid (Below w.heap.size w (w1.alloc (.cells #[.string nm, .int .u32 mk, .int .u32 mt, .int .u8 73] 59))) := Lib.hid (HB1.out.alloc HB1.out.size _)
  have q3 : (w1.alloc (.cells #[.string nm, .int .u32 mk, .int .u32 mt, .int .u8 73] 59)).cell? ⟨w1.heap.size, 3, none⟩ = some (.int .u8 73) := World.cell?_alloc_at _ _ _ _ rfl
  have q4 : (w1.alloc (.cells #[.string nm, .int .u32 mk, .int .u32 mt, .int .u8 73] 59)).cell? ⟨w.heap.size, 4, none⟩ = some (.int .i64 i.imm) := by go_simp
  have s1 : w1.heap.size < (w1.alloc (.cells #[.string nm, .int .u32 mk, .int .u32 mt, .int .u8 73] 59)).heap.size := by rw [World.size_alloc]; omega
  have s2 : w.heap.size < (w1.alloc (.cells #[.string nm, .int .u32 mk, .int .u32 mt, .int .u8 73] 59)).heap.size := by rw [World.size_alloc]; omega
  clear d0 d1 d2 d3 d4 d5 d6 d7 HIR HB1
  generalize hw2 : (w1.alloc (.cells #[.string nm, .int .u32 mk, .int .u32 mt, .int .u8 73] 59)) = w2 at *
  clear hw2
  generalize w1.heap.size = m at *
  generalize hn : w.heap.size = n at *
  have HNN := Lib.hid hn
  clear hn
  go_region_held3 (fun w' => w'.cell? ⟨m, 3, none⟩ = some (.int .u8 73) ∧ w'.cell? ⟨n, 4, none⟩ = some (.int .i64 i.imm)) (go_keep)
    (first
      | (go_at_call 50; refine (refForm_2 _).mono ?_; rintro e w3 ⟨rfl, rfl⟩)
      | (go_at_call 49; refine (HFI.out _).mono ?_; rintro e w4 ⟨rfl, hb4⟩; have g3 := (hb4.cell (p := ⟨m, 3, none⟩) s1).trans q3; have g4 := (hb4.cell (p := ⟨n, 4, none⟩) s2).trans q4; have HB4 := Lib.hid (HB2.out.trans (((Below.refl _ _).drew.trans hb4).mono (Nat.le_of_lt s2))); clear hb4))
  go_wp2
  go_ret
  exact ⟨rfl, by rw [HNN.out]; exact HB4.out⟩

set_option maxHeartbeats 2000000 in
theorem right_3_rd (op : Nat) (h1 : 1 ≤ op) (h2 : op ≤ 113) (hk : frmT op = 3) (i : Ins) (hop : i.op = op) (rdl : ¬ i.rd < 0) (rdh : ¬ 31 < i.rd) (al : ¬ i.a < 0) (ah : ¬ 31 < i.a) (bl : ¬ i.b < 0) (bh : ¬ 31 < i.b) (csrl : ¬ i.csr < 0) (csrh : ¬ 4095 < i.csr) (zrd : (i.rd != 0) = true) (w : World) :
    Calls Tryz.prog 30 #[.agg #[.int .i64 i.op, .int .i64 i.rd, .int .i64 i.a, .int .i64 i.b, .int .i64 i.imm, .int .i64 i.csr, .bool i.aq, .bool i.rl]] w fun e w' => e = .returned (.bool (false)) ∧ Below w.heap.size w w' := by
  have HR : Hid (∀ w, Calls Tryz.prog 31 #[.int .i64 i.op] w fun e w' => e = .returned (.agg #[.string (nameT op), .int .u32 (mskT op), .int .u32 (matT op), .int .u8 66]) ∧ Below w.heap.size w w') := Lib.hid fun w => by rw [hop]; have h := refRow_any op h1 h2 w; rw [hk] at h; exact h
  have Hrd : Hid (∀ w, Calls Tryz.prog 61 #[.int .u8 66, .string ⟨#[85, 74, 73, 72, 87, 82, 76, 65, 67, 90, 86]⟩] w fun e w' => e = .returned (.bool false) ∧ w = w') := Lib.hid fun w => has_rd 3 (by omega) w
  have Ha : Hid (∀ w, Calls Tryz.prog 61 #[.int .u8 66, .string ⟨#[73, 72, 87, 66, 83, 70, 82, 76, 65, 67, 86]⟩] w fun e w' => e = .returned (.bool true) ∧ w = w') := Lib.hid fun w => has_a 3 (by omega) w
  have Hb : Hid (∀ w, Calls Tryz.prog 61 #[.int .u8 66, .string ⟨#[66, 83, 70, 82, 65]⟩] w fun e w' => e = .returned (.bool true) ∧ w = w') := Lib.hid fun w => has_b 3 (by omega) w
  have Hcsr : Hid (∀ w, Calls Tryz.prog 61 #[.int .u8 66, .string ⟨#[67, 90]⟩] w fun e w' => e = .returned (.bool false) ∧ w = w') := Lib.hid fun w => has_csr 3 (by omega) w
  have Hord : Hid (∀ w, Calls Tryz.prog 61 #[.int .u8 66, .string ⟨#[76, 65]⟩] w fun e w' => e = .returned (.bool false) ∧ w = w') := Lib.hid fun w => has_ord 3 (by omega) w
  have o1 : ¬ i.op < 1 := by omega
  have o2 : ¬ 113 < i.op := by omega
  clear h1 h2 hop hk
  generalize nameT op = nm at *
  generalize (mskT op : Int) = mk at *
  generalize (matT op : Int) = mt at *
  go_enter Tryz.func30, Tryz.ntmps30
  go_wp2_with (first
    | (go_at_call 31; (with_reducible refine (HR.out _).mono ?_); rintro e1 w1 ⟨rfl, hb1⟩; have HB1 : Hid (Below w.heap.size w w1) := Lib.hid (((Below.refl _ _).alloc (Nat.le_refl _) _).trans (hb1.mono (by simp))); have hs1 : w.heap.size < w1.heap.size := (by have := hb1.size; simp at this; omega); have HIR : Hid (w1.heap[w.heap.size]? = some (.cells #[.int .i64 i.op, .int .i64 i.rd, .int .i64 i.a, .int .i64 i.b, .int .i64 i.imm, .int .i64 i.csr, .bool i.aq, .bool i.rl] 23 (0, 0))) := Lib.hid ((hb1.block _ (by simp)).trans (heap_alloc_new w _)); have d0 : w1.cell? ⟨w.heap.size, 0, none⟩ = some (.int .i64 i.op) := (by rw [cell_of_row _ _ _ _ _ _ HIR.out]; rfl); have d1 : w1.cell? ⟨w.heap.size, 1, none⟩ = some (.int .i64 i.rd) := (by rw [cell_of_row _ _ _ _ _ _ HIR.out]; rfl); have d2 : w1.cell? ⟨w.heap.size, 2, none⟩ = some (.int .i64 i.a) := (by rw [cell_of_row _ _ _ _ _ _ HIR.out]; rfl); have d3 : w1.cell? ⟨w.heap.size, 3, none⟩ = some (.int .i64 i.b) := (by rw [cell_of_row _ _ _ _ _ _ HIR.out]; rfl); have d4 : w1.cell? ⟨w.heap.size, 4, none⟩ = some (.int .i64 i.imm) := (by rw [cell_of_row _ _ _ _ _ _ HIR.out]; rfl); have d5 : w1.cell? ⟨w.heap.size, 5, none⟩ = some (.int .i64 i.csr) := (by rw [cell_of_row _ _ _ _ _ _ HIR.out]; rfl); have d6 : w1.cell? ⟨w.heap.size, 6, none⟩ = some (.bool i.aq) := (by rw [cell_of_row _ _ _ _ _ _ HIR.out]; rfl); have d7 : w1.cell? ⟨w.heap.size, 7, none⟩ = some (.bool i.rl) := (by rw [cell_of_row _ _ _ _ _ _ HIR.out]; rfl); clear hb1)
    | (go_at_call 61; (with_reducible refine (Hrd.out _).mono ?_); rintro e w3 ⟨rfl, rfl⟩)
    | (go_at_call 61; (with_reducible refine (Ha.out _).mono ?_); rintro e w3 ⟨rfl, rfl⟩)
    | (go_at_call 61; (with_reducible refine (Hb.out _).mono ?_); rintro e w3 ⟨rfl, rfl⟩)
    | (go_at_call 61; (with_reducible refine (Hcsr.out _).mono ?_); rintro e w3 ⟨rfl, rfl⟩)
    | (go_at_call 61; (with_reducible refine (Hord.out _).mono ?_); rintro e w3 ⟨rfl, rfl⟩)
    | (go_at_call 50; (with_reducible refine (refForm_3 _).mono ?_); rintro e w3 ⟨rfl, rfl⟩))
  go_ret
  exact ⟨rfl, HB1.out.alloc HB1.out.size _⟩

set_option maxHeartbeats 2000000 in
theorem right_3_csr (op : Nat) (h1 : 1 ≤ op) (h2 : op ≤ 113) (hk : frmT op = 3) (i : Ins) (hop : i.op = op) (rdl : ¬ i.rd < 0) (rdh : ¬ 31 < i.rd) (al : ¬ i.a < 0) (ah : ¬ 31 < i.a) (bl : ¬ i.b < 0) (bh : ¬ 31 < i.b) (csrl : ¬ i.csr < 0) (csrh : ¬ 4095 < i.csr) (zrd : (i.rd != 0) = false) (zcsr : (i.csr != 0) = true) (w : World) :
    Calls Tryz.prog 30 #[.agg #[.int .i64 i.op, .int .i64 i.rd, .int .i64 i.a, .int .i64 i.b, .int .i64 i.imm, .int .i64 i.csr, .bool i.aq, .bool i.rl]] w fun e w' => e = .returned (.bool (false)) ∧ Below w.heap.size w w' := by
  have HR : Hid (∀ w, Calls Tryz.prog 31 #[.int .i64 i.op] w fun e w' => e = .returned (.agg #[.string (nameT op), .int .u32 (mskT op), .int .u32 (matT op), .int .u8 66]) ∧ Below w.heap.size w w') := Lib.hid fun w => by rw [hop]; have h := refRow_any op h1 h2 w; rw [hk] at h; exact h
  have Hrd : Hid (∀ w, Calls Tryz.prog 61 #[.int .u8 66, .string ⟨#[85, 74, 73, 72, 87, 82, 76, 65, 67, 90, 86]⟩] w fun e w' => e = .returned (.bool false) ∧ w = w') := Lib.hid fun w => has_rd 3 (by omega) w
  have Ha : Hid (∀ w, Calls Tryz.prog 61 #[.int .u8 66, .string ⟨#[73, 72, 87, 66, 83, 70, 82, 76, 65, 67, 86]⟩] w fun e w' => e = .returned (.bool true) ∧ w = w') := Lib.hid fun w => has_a 3 (by omega) w
  have Hb : Hid (∀ w, Calls Tryz.prog 61 #[.int .u8 66, .string ⟨#[66, 83, 70, 82, 65]⟩] w fun e w' => e = .returned (.bool true) ∧ w = w') := Lib.hid fun w => has_b 3 (by omega) w
  have Hcsr : Hid (∀ w, Calls Tryz.prog 61 #[.int .u8 66, .string ⟨#[67, 90]⟩] w fun e w' => e = .returned (.bool false) ∧ w = w') := Lib.hid fun w => has_csr 3 (by omega) w
  have Hord : Hid (∀ w, Calls Tryz.prog 61 #[.int .u8 66, .string ⟨#[76, 65]⟩] w fun e w' => e = .returned (.bool false) ∧ w = w') := Lib.hid fun w => has_ord 3 (by omega) w
  have o1 : ¬ i.op < 1 := by omega
  have o2 : ¬ 113 < i.op := by omega
  clear h1 h2 hop hk
  generalize nameT op = nm at *
  generalize (mskT op : Int) = mk at *
  generalize (matT op : Int) = mt at *
  go_enter Tryz.func30, Tryz.ntmps30
  go_wp2_with (first
    | (go_at_call 31; (with_reducible refine (HR.out _).mono ?_); rintro e1 w1 ⟨rfl, hb1⟩; have HB1 : Hid (Below w.heap.size w w1) := Lib.hid (((Below.refl _ _).alloc (Nat.le_refl _) _).trans (hb1.mono (by simp))); have hs1 : w.heap.size < w1.heap.size := (by have := hb1.size; simp at this; omega); have HIR : Hid (w1.heap[w.heap.size]? = some (.cells #[.int .i64 i.op, .int .i64 i.rd, .int .i64 i.a, .int .i64 i.b, .int .i64 i.imm, .int .i64 i.csr, .bool i.aq, .bool i.rl] 23 (0, 0))) := Lib.hid ((hb1.block _ (by simp)).trans (heap_alloc_new w _)); have d0 : w1.cell? ⟨w.heap.size, 0, none⟩ = some (.int .i64 i.op) := (by rw [cell_of_row _ _ _ _ _ _ HIR.out]; rfl); have d1 : w1.cell? ⟨w.heap.size, 1, none⟩ = some (.int .i64 i.rd) := (by rw [cell_of_row _ _ _ _ _ _ HIR.out]; rfl); have d2 : w1.cell? ⟨w.heap.size, 2, none⟩ = some (.int .i64 i.a) := (by rw [cell_of_row _ _ _ _ _ _ HIR.out]; rfl); have d3 : w1.cell? ⟨w.heap.size, 3, none⟩ = some (.int .i64 i.b) := (by rw [cell_of_row _ _ _ _ _ _ HIR.out]; rfl); have d4 : w1.cell? ⟨w.heap.size, 4, none⟩ = some (.int .i64 i.imm) := (by rw [cell_of_row _ _ _ _ _ _ HIR.out]; rfl); have d5 : w1.cell? ⟨w.heap.size, 5, none⟩ = some (.int .i64 i.csr) := (by rw [cell_of_row _ _ _ _ _ _ HIR.out]; rfl); have d6 : w1.cell? ⟨w.heap.size, 6, none⟩ = some (.bool i.aq) := (by rw [cell_of_row _ _ _ _ _ _ HIR.out]; rfl); have d7 : w1.cell? ⟨w.heap.size, 7, none⟩ = some (.bool i.rl) := (by rw [cell_of_row _ _ _ _ _ _ HIR.out]; rfl); clear hb1)
    | (go_at_call 61; (with_reducible refine (Hrd.out _).mono ?_); rintro e w3 ⟨rfl, rfl⟩)
    | (go_at_call 61; (with_reducible refine (Ha.out _).mono ?_); rintro e w3 ⟨rfl, rfl⟩)
    | (go_at_call 61; (with_reducible refine (Hb.out _).mono ?_); rintro e w3 ⟨rfl, rfl⟩)
    | (go_at_call 61; (with_reducible refine (Hcsr.out _).mono ?_); rintro e w3 ⟨rfl, rfl⟩)
    | (go_at_call 61; (with_reducible refine (Hord.out _).mono ?_); rintro e w3 ⟨rfl, rfl⟩)
    | (go_at_call 50; (with_reducible refine (refForm_3 _).mono ?_); rintro e w3 ⟨rfl, rfl⟩))
  go_ret
  exact ⟨rfl, HB1.out.alloc HB1.out.size _⟩

set_option maxHeartbeats 2000000 in
theorem right_3_aq (op : Nat) (h1 : 1 ≤ op) (h2 : op ≤ 113) (hk : frmT op = 3) (i : Ins) (hop : i.op = op) (rdl : ¬ i.rd < 0) (rdh : ¬ 31 < i.rd) (al : ¬ i.a < 0) (ah : ¬ 31 < i.a) (bl : ¬ i.b < 0) (bh : ¬ 31 < i.b) (csrl : ¬ i.csr < 0) (csrh : ¬ 4095 < i.csr) (zrd : (i.rd != 0) = false) (zcsr : (i.csr != 0) = false) (zaq : i.aq = true) (w : World) :
    Calls Tryz.prog 30 #[.agg #[.int .i64 i.op, .int .i64 i.rd, .int .i64 i.a, .int .i64 i.b, .int .i64 i.imm, .int .i64 i.csr, .bool i.aq, .bool i.rl]] w fun e w' => e = .returned (.bool (false)) ∧ Below w.heap.size w w' := by
  have HR : Hid (∀ w, Calls Tryz.prog 31 #[.int .i64 i.op] w fun e w' => e = .returned (.agg #[.string (nameT op), .int .u32 (mskT op), .int .u32 (matT op), .int .u8 66]) ∧ Below w.heap.size w w') := Lib.hid fun w => by rw [hop]; have h := refRow_any op h1 h2 w; rw [hk] at h; exact h
  have Hrd : Hid (∀ w, Calls Tryz.prog 61 #[.int .u8 66, .string ⟨#[85, 74, 73, 72, 87, 82, 76, 65, 67, 90, 86]⟩] w fun e w' => e = .returned (.bool false) ∧ w = w') := Lib.hid fun w => has_rd 3 (by omega) w
  have Ha : Hid (∀ w, Calls Tryz.prog 61 #[.int .u8 66, .string ⟨#[73, 72, 87, 66, 83, 70, 82, 76, 65, 67, 86]⟩] w fun e w' => e = .returned (.bool true) ∧ w = w') := Lib.hid fun w => has_a 3 (by omega) w
  have Hb : Hid (∀ w, Calls Tryz.prog 61 #[.int .u8 66, .string ⟨#[66, 83, 70, 82, 65]⟩] w fun e w' => e = .returned (.bool true) ∧ w = w') := Lib.hid fun w => has_b 3 (by omega) w
  have Hcsr : Hid (∀ w, Calls Tryz.prog 61 #[.int .u8 66, .string ⟨#[67, 90]⟩] w fun e w' => e = .returned (.bool false) ∧ w = w') := Lib.hid fun w => has_csr 3 (by omega) w
  have Hord : Hid (∀ w, Calls Tryz.prog 61 #[.int .u8 66, .string ⟨#[76, 65]⟩] w fun e w' => e = .returned (.bool false) ∧ w = w') := Lib.hid fun w => has_ord 3 (by omega) w
  have o1 : ¬ i.op < 1 := by omega
  have o2 : ¬ 113 < i.op := by omega
  clear h1 h2 hop hk
  generalize nameT op = nm at *
  generalize (mskT op : Int) = mk at *
  generalize (matT op : Int) = mt at *
  go_enter Tryz.func30, Tryz.ntmps30
  go_wp2_with (first
    | (go_at_call 31; (with_reducible refine (HR.out _).mono ?_); rintro e1 w1 ⟨rfl, hb1⟩; have HB1 : Hid (Below w.heap.size w w1) := Lib.hid (((Below.refl _ _).alloc (Nat.le_refl _) _).trans (hb1.mono (by simp))); have hs1 : w.heap.size < w1.heap.size := (by have := hb1.size; simp at this; omega); have HIR : Hid (w1.heap[w.heap.size]? = some (.cells #[.int .i64 i.op, .int .i64 i.rd, .int .i64 i.a, .int .i64 i.b, .int .i64 i.imm, .int .i64 i.csr, .bool true, .bool i.rl] 23 (0, 0))) := Lib.hid ((hb1.block _ (by simp)).trans (heap_alloc_new w _)); have d0 : w1.cell? ⟨w.heap.size, 0, none⟩ = some (.int .i64 i.op) := (by rw [cell_of_row _ _ _ _ _ _ HIR.out]; rfl); have d1 : w1.cell? ⟨w.heap.size, 1, none⟩ = some (.int .i64 i.rd) := (by rw [cell_of_row _ _ _ _ _ _ HIR.out]; rfl); have d2 : w1.cell? ⟨w.heap.size, 2, none⟩ = some (.int .i64 i.a) := (by rw [cell_of_row _ _ _ _ _ _ HIR.out]; rfl); have d3 : w1.cell? ⟨w.heap.size, 3, none⟩ = some (.int .i64 i.b) := (by rw [cell_of_row _ _ _ _ _ _ HIR.out]; rfl); have d4 : w1.cell? ⟨w.heap.size, 4, none⟩ = some (.int .i64 i.imm) := (by rw [cell_of_row _ _ _ _ _ _ HIR.out]; rfl); have d5 : w1.cell? ⟨w.heap.size, 5, none⟩ = some (.int .i64 i.csr) := (by rw [cell_of_row _ _ _ _ _ _ HIR.out]; rfl); have d6 : w1.cell? ⟨w.heap.size, 6, none⟩ = some (.bool true) := (by rw [cell_of_row _ _ _ _ _ _ HIR.out]; rfl); have d7 : w1.cell? ⟨w.heap.size, 7, none⟩ = some (.bool i.rl) := (by rw [cell_of_row _ _ _ _ _ _ HIR.out]; rfl); clear hb1)
    | (go_at_call 61; (with_reducible refine (Hrd.out _).mono ?_); rintro e w3 ⟨rfl, rfl⟩)
    | (go_at_call 61; (with_reducible refine (Ha.out _).mono ?_); rintro e w3 ⟨rfl, rfl⟩)
    | (go_at_call 61; (with_reducible refine (Hb.out _).mono ?_); rintro e w3 ⟨rfl, rfl⟩)
    | (go_at_call 61; (with_reducible refine (Hcsr.out _).mono ?_); rintro e w3 ⟨rfl, rfl⟩)
    | (go_at_call 61; (with_reducible refine (Hord.out _).mono ?_); rintro e w3 ⟨rfl, rfl⟩)
    | (go_at_call 50; (with_reducible refine (refForm_3 _).mono ?_); rintro e w3 ⟨rfl, rfl⟩))
  go_ret
  exact ⟨rfl, HB1.out.alloc HB1.out.size _⟩

set_option maxHeartbeats 2000000 in
theorem right_3_rl (op : Nat) (h1 : 1 ≤ op) (h2 : op ≤ 113) (hk : frmT op = 3) (i : Ins) (hop : i.op = op) (rdl : ¬ i.rd < 0) (rdh : ¬ 31 < i.rd) (al : ¬ i.a < 0) (ah : ¬ 31 < i.a) (bl : ¬ i.b < 0) (bh : ¬ 31 < i.b) (csrl : ¬ i.csr < 0) (csrh : ¬ 4095 < i.csr) (zrd : (i.rd != 0) = false) (zcsr : (i.csr != 0) = false) (zaq : i.aq = false) (zrl : i.rl = true) (w : World) :
    Calls Tryz.prog 30 #[.agg #[.int .i64 i.op, .int .i64 i.rd, .int .i64 i.a, .int .i64 i.b, .int .i64 i.imm, .int .i64 i.csr, .bool i.aq, .bool i.rl]] w fun e w' => e = .returned (.bool (false)) ∧ Below w.heap.size w w' := by
  have HR : Hid (∀ w, Calls Tryz.prog 31 #[.int .i64 i.op] w fun e w' => e = .returned (.agg #[.string (nameT op), .int .u32 (mskT op), .int .u32 (matT op), .int .u8 66]) ∧ Below w.heap.size w w') := Lib.hid fun w => by rw [hop]; have h := refRow_any op h1 h2 w; rw [hk] at h; exact h
  have Hrd : Hid (∀ w, Calls Tryz.prog 61 #[.int .u8 66, .string ⟨#[85, 74, 73, 72, 87, 82, 76, 65, 67, 90, 86]⟩] w fun e w' => e = .returned (.bool false) ∧ w = w') := Lib.hid fun w => has_rd 3 (by omega) w
  have Ha : Hid (∀ w, Calls Tryz.prog 61 #[.int .u8 66, .string ⟨#[73, 72, 87, 66, 83, 70, 82, 76, 65, 67, 86]⟩] w fun e w' => e = .returned (.bool true) ∧ w = w') := Lib.hid fun w => has_a 3 (by omega) w
  have Hb : Hid (∀ w, Calls Tryz.prog 61 #[.int .u8 66, .string ⟨#[66, 83, 70, 82, 65]⟩] w fun e w' => e = .returned (.bool true) ∧ w = w') := Lib.hid fun w => has_b 3 (by omega) w
  have Hcsr : Hid (∀ w, Calls Tryz.prog 61 #[.int .u8 66, .string ⟨#[67, 90]⟩] w fun e w' => e = .returned (.bool false) ∧ w = w') := Lib.hid fun w => has_csr 3 (by omega) w
  have Hord : Hid (∀ w, Calls Tryz.prog 61 #[.int .u8 66, .string ⟨#[76, 65]⟩] w fun e w' => e = .returned (.bool false) ∧ w = w') := Lib.hid fun w => has_ord 3 (by omega) w
  have o1 : ¬ i.op < 1 := by omega
  have o2 : ¬ 113 < i.op := by omega
  clear h1 h2 hop hk
  generalize nameT op = nm at *
  generalize (mskT op : Int) = mk at *
  generalize (matT op : Int) = mt at *
  go_enter Tryz.func30, Tryz.ntmps30
  go_wp2_with (first
    | (go_at_call 31; (with_reducible refine (HR.out _).mono ?_); rintro e1 w1 ⟨rfl, hb1⟩; have HB1 : Hid (Below w.heap.size w w1) := Lib.hid (((Below.refl _ _).alloc (Nat.le_refl _) _).trans (hb1.mono (by simp))); have hs1 : w.heap.size < w1.heap.size := (by have := hb1.size; simp at this; omega); have HIR : Hid (w1.heap[w.heap.size]? = some (.cells #[.int .i64 i.op, .int .i64 i.rd, .int .i64 i.a, .int .i64 i.b, .int .i64 i.imm, .int .i64 i.csr, .bool false, .bool true] 23 (0, 0))) := Lib.hid ((hb1.block _ (by simp)).trans (heap_alloc_new w _)); have d0 : w1.cell? ⟨w.heap.size, 0, none⟩ = some (.int .i64 i.op) := (by rw [cell_of_row _ _ _ _ _ _ HIR.out]; rfl); have d1 : w1.cell? ⟨w.heap.size, 1, none⟩ = some (.int .i64 i.rd) := (by rw [cell_of_row _ _ _ _ _ _ HIR.out]; rfl); have d2 : w1.cell? ⟨w.heap.size, 2, none⟩ = some (.int .i64 i.a) := (by rw [cell_of_row _ _ _ _ _ _ HIR.out]; rfl); have d3 : w1.cell? ⟨w.heap.size, 3, none⟩ = some (.int .i64 i.b) := (by rw [cell_of_row _ _ _ _ _ _ HIR.out]; rfl); have d4 : w1.cell? ⟨w.heap.size, 4, none⟩ = some (.int .i64 i.imm) := (by rw [cell_of_row _ _ _ _ _ _ HIR.out]; rfl); have d5 : w1.cell? ⟨w.heap.size, 5, none⟩ = some (.int .i64 i.csr) := (by rw [cell_of_row _ _ _ _ _ _ HIR.out]; rfl); have d6 : w1.cell? ⟨w.heap.size, 6, none⟩ = some (.bool false) := (by rw [cell_of_row _ _ _ _ _ _ HIR.out]; rfl); have d7 : w1.cell? ⟨w.heap.size, 7, none⟩ = some (.bool true) := (by rw [cell_of_row _ _ _ _ _ _ HIR.out]; rfl); clear hb1)
    | (go_at_call 61; (with_reducible refine (Hrd.out _).mono ?_); rintro e w3 ⟨rfl, rfl⟩)
    | (go_at_call 61; (with_reducible refine (Ha.out _).mono ?_); rintro e w3 ⟨rfl, rfl⟩)
    | (go_at_call 61; (with_reducible refine (Hb.out _).mono ?_); rintro e w3 ⟨rfl, rfl⟩)
    | (go_at_call 61; (with_reducible refine (Hcsr.out _).mono ?_); rintro e w3 ⟨rfl, rfl⟩)
    | (go_at_call 61; (with_reducible refine (Hord.out _).mono ?_); rintro e w3 ⟨rfl, rfl⟩)
    | (go_at_call 50; (with_reducible refine (refForm_3 _).mono ?_); rintro e w3 ⟨rfl, rfl⟩))
  go_ret
  exact ⟨rfl, HB1.out.alloc HB1.out.size _⟩

set_option maxHeartbeats 2000000 in
theorem right_3_end (op : Nat) (h1 : 1 ≤ op) (h2 : op ≤ 113) (hk : frmT op = 3) (i : Ins) (hop : i.op = op) (rdl : ¬ i.rd < 0) (rdh : ¬ 31 < i.rd) (al : ¬ i.a < 0) (ah : ¬ 31 < i.a) (bl : ¬ i.b < 0) (bh : ¬ 31 < i.b) (csrl : ¬ i.csr < 0) (csrh : ¬ 4095 < i.csr) (zrd : (i.rd != 0) = false) (zcsr : (i.csr != 0) = false) (zaq : i.aq = false) (zrl : i.rl = false) (w : World) :
    Calls Tryz.prog 30 #[.agg #[.int .i64 i.op, .int .i64 i.rd, .int .i64 i.a, .int .i64 i.b, .int .i64 i.imm, .int .i64 i.csr, .bool i.aq, .bool i.rl]] w fun e w' => e = .returned (.bool ((formL 3).number ((formL 3).word i.imm) == i.imm)) ∧ Below w.heap.size w w' := by
  have HR : Hid (∀ w, Calls Tryz.prog 31 #[.int .i64 i.op] w fun e w' => e = .returned (.agg #[.string (nameT op), .int .u32 (mskT op), .int .u32 (matT op), .int .u8 66]) ∧ Below w.heap.size w w') := Lib.hid fun w => by rw [hop]; have h := refRow_any op h1 h2 w; rw [hk] at h; exact h
  have Hrd : Hid (∀ w, Calls Tryz.prog 61 #[.int .u8 66, .string ⟨#[85, 74, 73, 72, 87, 82, 76, 65, 67, 90, 86]⟩] w fun e w' => e = .returned (.bool false) ∧ w = w') := Lib.hid fun w => has_rd 3 (by omega) w
  have Ha : Hid (∀ w, Calls Tryz.prog 61 #[.int .u8 66, .string ⟨#[73, 72, 87, 66, 83, 70, 82, 76, 65, 67, 86]⟩] w fun e w' => e = .returned (.bool true) ∧ w = w') := Lib.hid fun w => has_a 3 (by omega) w
  have Hb : Hid (∀ w, Calls Tryz.prog 61 #[.int .u8 66, .string ⟨#[66, 83, 70, 82, 65]⟩] w fun e w' => e = .returned (.bool true) ∧ w = w') := Lib.hid fun w => has_b 3 (by omega) w
  have Hcsr : Hid (∀ w, Calls Tryz.prog 61 #[.int .u8 66, .string ⟨#[67, 90]⟩] w fun e w' => e = .returned (.bool false) ∧ w = w') := Lib.hid fun w => has_csr 3 (by omega) w
  have Hord : Hid (∀ w, Calls Tryz.prog 61 #[.int .u8 66, .string ⟨#[76, 65]⟩] w fun e w' => e = .returned (.bool false) ∧ w = w') := Lib.hid fun w => has_ord 3 (by omega) w
  have HFI : Hid (∀ w, Calls Tryz.prog 49 #[.int .i64 3, .int .i64 i.imm] w fun e w' => e = .returned (.bool ((formL 3).number ((formL 3).word i.imm) == i.imm)) ∧ Below w.heap.size w w') := Lib.hid fun w => refFits_form 3 (by omega) i.imm w
  generalize ((formL 3).number ((formL 3).word i.imm) == i.imm) = r at *
  have o1 : ¬ i.op < 1 := by omega
  have o2 : ¬ 113 < i.op := by omega
  clear h1 h2 hop hk
  generalize nameT op = nm at *
  generalize (mskT op : Int) = mk at *
  generalize (matT op : Int) = mt at *
  go_enter Tryz.func30, Tryz.ntmps30
  go_wp2_with (first
    | (go_at_call 31; (with_reducible refine (HR.out _).mono ?_); rintro e1 w1 ⟨rfl, hb1⟩; have HB1 : Hid (Below w.heap.size w w1) := Lib.hid (((Below.refl _ _).alloc (Nat.le_refl _) _).trans (hb1.mono (by simp))); have hs1 : w.heap.size < w1.heap.size := (by have := hb1.size; simp at this; omega); have HIR : Hid (w1.heap[w.heap.size]? = some (.cells #[.int .i64 i.op, .int .i64 i.rd, .int .i64 i.a, .int .i64 i.b, .int .i64 i.imm, .int .i64 i.csr, .bool false, .bool false] 23 (0, 0))) := Lib.hid ((hb1.block _ (by simp)).trans (heap_alloc_new w _)); have d0 : w1.cell? ⟨w.heap.size, 0, none⟩ = some (.int .i64 i.op) := (by rw [cell_of_row _ _ _ _ _ _ HIR.out]; rfl); have d1 : w1.cell? ⟨w.heap.size, 1, none⟩ = some (.int .i64 i.rd) := (by rw [cell_of_row _ _ _ _ _ _ HIR.out]; rfl); have d2 : w1.cell? ⟨w.heap.size, 2, none⟩ = some (.int .i64 i.a) := (by rw [cell_of_row _ _ _ _ _ _ HIR.out]; rfl); have d3 : w1.cell? ⟨w.heap.size, 3, none⟩ = some (.int .i64 i.b) := (by rw [cell_of_row _ _ _ _ _ _ HIR.out]; rfl); have d4 : w1.cell? ⟨w.heap.size, 4, none⟩ = some (.int .i64 i.imm) := (by rw [cell_of_row _ _ _ _ _ _ HIR.out]; rfl); have d5 : w1.cell? ⟨w.heap.size, 5, none⟩ = some (.int .i64 i.csr) := (by rw [cell_of_row _ _ _ _ _ _ HIR.out]; rfl); have d6 : w1.cell? ⟨w.heap.size, 6, none⟩ = some (.bool false) := (by rw [cell_of_row _ _ _ _ _ _ HIR.out]; rfl); have d7 : w1.cell? ⟨w.heap.size, 7, none⟩ = some (.bool false) := (by rw [cell_of_row _ _ _ _ _ _ HIR.out]; rfl); clear hb1)
    | (go_at_call 61; (with_reducible refine (Hrd.out _).mono ?_); rintro e w3 ⟨rfl, rfl⟩)
    | (go_at_call 61; (with_reducible refine (Ha.out _).mono ?_); rintro e w3 ⟨rfl, rfl⟩)
    | (go_at_call 61; (with_reducible refine (Hb.out _).mono ?_); rintro e w3 ⟨rfl, rfl⟩)
    | (go_at_call 61; (with_reducible refine (Hcsr.out _).mono ?_); rintro e w3 ⟨rfl, rfl⟩)
    | (go_at_call 61; (with_reducible refine (Hord.out _).mono ?_); rintro e w3 ⟨rfl, rfl⟩)
    | (go_at_call 50; (with_reducible refine (refForm_3 _).mono ?_); rintro e w3 ⟨rfl, rfl⟩))
  have HB2 : Hid (Below w.heap.size w (w1.alloc (.cells #[.string nm, .int .u32 mk, .int .u32 mt, .int .u8 66] 59))) := Lib.hid (HB1.out.alloc HB1.out.size _)
  have q3 : (w1.alloc (.cells #[.string nm, .int .u32 mk, .int .u32 mt, .int .u8 66] 59)).cell? ⟨w1.heap.size, 3, none⟩ = some (.int .u8 66) := World.cell?_alloc_at _ _ _ _ rfl
  have q4 : (w1.alloc (.cells #[.string nm, .int .u32 mk, .int .u32 mt, .int .u8 66] 59)).cell? ⟨w.heap.size, 4, none⟩ = some (.int .i64 i.imm) := by go_simp
  have s1 : w1.heap.size < (w1.alloc (.cells #[.string nm, .int .u32 mk, .int .u32 mt, .int .u8 66] 59)).heap.size := by rw [World.size_alloc]; omega
  have s2 : w.heap.size < (w1.alloc (.cells #[.string nm, .int .u32 mk, .int .u32 mt, .int .u8 66] 59)).heap.size := by rw [World.size_alloc]; omega
  clear d0 d1 d2 d3 d4 d5 d6 d7 HIR HB1
  generalize hw2 : (w1.alloc (.cells #[.string nm, .int .u32 mk, .int .u32 mt, .int .u8 66] 59)) = w2 at *
  clear hw2
  generalize w1.heap.size = m at *
  generalize hn : w.heap.size = n at *
  have HNN := Lib.hid hn
  clear hn
  go_region_held3 (fun w' => w'.cell? ⟨m, 3, none⟩ = some (.int .u8 66) ∧ w'.cell? ⟨n, 4, none⟩ = some (.int .i64 i.imm)) (go_keep)
    (first
      | (go_at_call 50; refine (refForm_3 _).mono ?_; rintro e w3 ⟨rfl, rfl⟩)
      | (go_at_call 49; refine (HFI.out _).mono ?_; rintro e w4 ⟨rfl, hb4⟩; have g3 := (hb4.cell (p := ⟨m, 3, none⟩) s1).trans q3; have g4 := (hb4.cell (p := ⟨n, 4, none⟩) s2).trans q4; have HB4 := Lib.hid (HB2.out.trans (((Below.refl _ _).drew.trans hb4).mono (Nat.le_of_lt s2))); clear hb4))
  go_wp2
  go_ret
  exact ⟨rfl, by rw [HNN.out]; exact HB4.out⟩

set_option maxHeartbeats 2000000 in
theorem right_4_rd (op : Nat) (h1 : 1 ≤ op) (h2 : op ≤ 113) (hk : frmT op = 4) (i : Ins) (hop : i.op = op) (rdl : ¬ i.rd < 0) (rdh : ¬ 31 < i.rd) (al : ¬ i.a < 0) (ah : ¬ 31 < i.a) (bl : ¬ i.b < 0) (bh : ¬ 31 < i.b) (csrl : ¬ i.csr < 0) (csrh : ¬ 4095 < i.csr) (zrd : (i.rd != 0) = true) (w : World) :
    Calls Tryz.prog 30 #[.agg #[.int .i64 i.op, .int .i64 i.rd, .int .i64 i.a, .int .i64 i.b, .int .i64 i.imm, .int .i64 i.csr, .bool i.aq, .bool i.rl]] w fun e w' => e = .returned (.bool (false)) ∧ Below w.heap.size w w' := by
  have HR : Hid (∀ w, Calls Tryz.prog 31 #[.int .i64 i.op] w fun e w' => e = .returned (.agg #[.string (nameT op), .int .u32 (mskT op), .int .u32 (matT op), .int .u8 83]) ∧ Below w.heap.size w w') := Lib.hid fun w => by rw [hop]; have h := refRow_any op h1 h2 w; rw [hk] at h; exact h
  have Hrd : Hid (∀ w, Calls Tryz.prog 61 #[.int .u8 83, .string ⟨#[85, 74, 73, 72, 87, 82, 76, 65, 67, 90, 86]⟩] w fun e w' => e = .returned (.bool false) ∧ w = w') := Lib.hid fun w => has_rd 4 (by omega) w
  have Ha : Hid (∀ w, Calls Tryz.prog 61 #[.int .u8 83, .string ⟨#[73, 72, 87, 66, 83, 70, 82, 76, 65, 67, 86]⟩] w fun e w' => e = .returned (.bool true) ∧ w = w') := Lib.hid fun w => has_a 4 (by omega) w
  have Hb : Hid (∀ w, Calls Tryz.prog 61 #[.int .u8 83, .string ⟨#[66, 83, 70, 82, 65]⟩] w fun e w' => e = .returned (.bool true) ∧ w = w') := Lib.hid fun w => has_b 4 (by omega) w
  have Hcsr : Hid (∀ w, Calls Tryz.prog 61 #[.int .u8 83, .string ⟨#[67, 90]⟩] w fun e w' => e = .returned (.bool false) ∧ w = w') := Lib.hid fun w => has_csr 4 (by omega) w
  have Hord : Hid (∀ w, Calls Tryz.prog 61 #[.int .u8 83, .string ⟨#[76, 65]⟩] w fun e w' => e = .returned (.bool false) ∧ w = w') := Lib.hid fun w => has_ord 4 (by omega) w
  have o1 : ¬ i.op < 1 := by omega
  have o2 : ¬ 113 < i.op := by omega
  clear h1 h2 hop hk
  generalize nameT op = nm at *
  generalize (mskT op : Int) = mk at *
  generalize (matT op : Int) = mt at *
  go_enter Tryz.func30, Tryz.ntmps30
  go_wp2_with (first
    | (go_at_call 31; (with_reducible refine (HR.out _).mono ?_); rintro e1 w1 ⟨rfl, hb1⟩; have HB1 : Hid (Below w.heap.size w w1) := Lib.hid (((Below.refl _ _).alloc (Nat.le_refl _) _).trans (hb1.mono (by simp))); have hs1 : w.heap.size < w1.heap.size := (by have := hb1.size; simp at this; omega); have HIR : Hid (w1.heap[w.heap.size]? = some (.cells #[.int .i64 i.op, .int .i64 i.rd, .int .i64 i.a, .int .i64 i.b, .int .i64 i.imm, .int .i64 i.csr, .bool i.aq, .bool i.rl] 23 (0, 0))) := Lib.hid ((hb1.block _ (by simp)).trans (heap_alloc_new w _)); have d0 : w1.cell? ⟨w.heap.size, 0, none⟩ = some (.int .i64 i.op) := (by rw [cell_of_row _ _ _ _ _ _ HIR.out]; rfl); have d1 : w1.cell? ⟨w.heap.size, 1, none⟩ = some (.int .i64 i.rd) := (by rw [cell_of_row _ _ _ _ _ _ HIR.out]; rfl); have d2 : w1.cell? ⟨w.heap.size, 2, none⟩ = some (.int .i64 i.a) := (by rw [cell_of_row _ _ _ _ _ _ HIR.out]; rfl); have d3 : w1.cell? ⟨w.heap.size, 3, none⟩ = some (.int .i64 i.b) := (by rw [cell_of_row _ _ _ _ _ _ HIR.out]; rfl); have d4 : w1.cell? ⟨w.heap.size, 4, none⟩ = some (.int .i64 i.imm) := (by rw [cell_of_row _ _ _ _ _ _ HIR.out]; rfl); have d5 : w1.cell? ⟨w.heap.size, 5, none⟩ = some (.int .i64 i.csr) := (by rw [cell_of_row _ _ _ _ _ _ HIR.out]; rfl); have d6 : w1.cell? ⟨w.heap.size, 6, none⟩ = some (.bool i.aq) := (by rw [cell_of_row _ _ _ _ _ _ HIR.out]; rfl); have d7 : w1.cell? ⟨w.heap.size, 7, none⟩ = some (.bool i.rl) := (by rw [cell_of_row _ _ _ _ _ _ HIR.out]; rfl); clear hb1)
    | (go_at_call 61; (with_reducible refine (Hrd.out _).mono ?_); rintro e w3 ⟨rfl, rfl⟩)
    | (go_at_call 61; (with_reducible refine (Ha.out _).mono ?_); rintro e w3 ⟨rfl, rfl⟩)
    | (go_at_call 61; (with_reducible refine (Hb.out _).mono ?_); rintro e w3 ⟨rfl, rfl⟩)
    | (go_at_call 61; (with_reducible refine (Hcsr.out _).mono ?_); rintro e w3 ⟨rfl, rfl⟩)
    | (go_at_call 61; (with_reducible refine (Hord.out _).mono ?_); rintro e w3 ⟨rfl, rfl⟩)
    | (go_at_call 50; (with_reducible refine (refForm_4 _).mono ?_); rintro e w3 ⟨rfl, rfl⟩))
  go_ret
  exact ⟨rfl, HB1.out.alloc HB1.out.size _⟩

set_option maxHeartbeats 2000000 in
theorem right_4_csr (op : Nat) (h1 : 1 ≤ op) (h2 : op ≤ 113) (hk : frmT op = 4) (i : Ins) (hop : i.op = op) (rdl : ¬ i.rd < 0) (rdh : ¬ 31 < i.rd) (al : ¬ i.a < 0) (ah : ¬ 31 < i.a) (bl : ¬ i.b < 0) (bh : ¬ 31 < i.b) (csrl : ¬ i.csr < 0) (csrh : ¬ 4095 < i.csr) (zrd : (i.rd != 0) = false) (zcsr : (i.csr != 0) = true) (w : World) :
    Calls Tryz.prog 30 #[.agg #[.int .i64 i.op, .int .i64 i.rd, .int .i64 i.a, .int .i64 i.b, .int .i64 i.imm, .int .i64 i.csr, .bool i.aq, .bool i.rl]] w fun e w' => e = .returned (.bool (false)) ∧ Below w.heap.size w w' := by
  have HR : Hid (∀ w, Calls Tryz.prog 31 #[.int .i64 i.op] w fun e w' => e = .returned (.agg #[.string (nameT op), .int .u32 (mskT op), .int .u32 (matT op), .int .u8 83]) ∧ Below w.heap.size w w') := Lib.hid fun w => by rw [hop]; have h := refRow_any op h1 h2 w; rw [hk] at h; exact h
  have Hrd : Hid (∀ w, Calls Tryz.prog 61 #[.int .u8 83, .string ⟨#[85, 74, 73, 72, 87, 82, 76, 65, 67, 90, 86]⟩] w fun e w' => e = .returned (.bool false) ∧ w = w') := Lib.hid fun w => has_rd 4 (by omega) w
  have Ha : Hid (∀ w, Calls Tryz.prog 61 #[.int .u8 83, .string ⟨#[73, 72, 87, 66, 83, 70, 82, 76, 65, 67, 86]⟩] w fun e w' => e = .returned (.bool true) ∧ w = w') := Lib.hid fun w => has_a 4 (by omega) w
  have Hb : Hid (∀ w, Calls Tryz.prog 61 #[.int .u8 83, .string ⟨#[66, 83, 70, 82, 65]⟩] w fun e w' => e = .returned (.bool true) ∧ w = w') := Lib.hid fun w => has_b 4 (by omega) w
  have Hcsr : Hid (∀ w, Calls Tryz.prog 61 #[.int .u8 83, .string ⟨#[67, 90]⟩] w fun e w' => e = .returned (.bool false) ∧ w = w') := Lib.hid fun w => has_csr 4 (by omega) w
  have Hord : Hid (∀ w, Calls Tryz.prog 61 #[.int .u8 83, .string ⟨#[76, 65]⟩] w fun e w' => e = .returned (.bool false) ∧ w = w') := Lib.hid fun w => has_ord 4 (by omega) w
  have o1 : ¬ i.op < 1 := by omega
  have o2 : ¬ 113 < i.op := by omega
  clear h1 h2 hop hk
  generalize nameT op = nm at *
  generalize (mskT op : Int) = mk at *
  generalize (matT op : Int) = mt at *
  go_enter Tryz.func30, Tryz.ntmps30
  go_wp2_with (first
    | (go_at_call 31; (with_reducible refine (HR.out _).mono ?_); rintro e1 w1 ⟨rfl, hb1⟩; have HB1 : Hid (Below w.heap.size w w1) := Lib.hid (((Below.refl _ _).alloc (Nat.le_refl _) _).trans (hb1.mono (by simp))); have hs1 : w.heap.size < w1.heap.size := (by have := hb1.size; simp at this; omega); have HIR : Hid (w1.heap[w.heap.size]? = some (.cells #[.int .i64 i.op, .int .i64 i.rd, .int .i64 i.a, .int .i64 i.b, .int .i64 i.imm, .int .i64 i.csr, .bool i.aq, .bool i.rl] 23 (0, 0))) := Lib.hid ((hb1.block _ (by simp)).trans (heap_alloc_new w _)); have d0 : w1.cell? ⟨w.heap.size, 0, none⟩ = some (.int .i64 i.op) := (by rw [cell_of_row _ _ _ _ _ _ HIR.out]; rfl); have d1 : w1.cell? ⟨w.heap.size, 1, none⟩ = some (.int .i64 i.rd) := (by rw [cell_of_row _ _ _ _ _ _ HIR.out]; rfl); have d2 : w1.cell? ⟨w.heap.size, 2, none⟩ = some (.int .i64 i.a) := (by rw [cell_of_row _ _ _ _ _ _ HIR.out]; rfl); have d3 : w1.cell? ⟨w.heap.size, 3, none⟩ = some (.int .i64 i.b) := (by rw [cell_of_row _ _ _ _ _ _ HIR.out]; rfl); have d4 : w1.cell? ⟨w.heap.size, 4, none⟩ = some (.int .i64 i.imm) := (by rw [cell_of_row _ _ _ _ _ _ HIR.out]; rfl); have d5 : w1.cell? ⟨w.heap.size, 5, none⟩ = some (.int .i64 i.csr) := (by rw [cell_of_row _ _ _ _ _ _ HIR.out]; rfl); have d6 : w1.cell? ⟨w.heap.size, 6, none⟩ = some (.bool i.aq) := (by rw [cell_of_row _ _ _ _ _ _ HIR.out]; rfl); have d7 : w1.cell? ⟨w.heap.size, 7, none⟩ = some (.bool i.rl) := (by rw [cell_of_row _ _ _ _ _ _ HIR.out]; rfl); clear hb1)
    | (go_at_call 61; (with_reducible refine (Hrd.out _).mono ?_); rintro e w3 ⟨rfl, rfl⟩)
    | (go_at_call 61; (with_reducible refine (Ha.out _).mono ?_); rintro e w3 ⟨rfl, rfl⟩)
    | (go_at_call 61; (with_reducible refine (Hb.out _).mono ?_); rintro e w3 ⟨rfl, rfl⟩)
    | (go_at_call 61; (with_reducible refine (Hcsr.out _).mono ?_); rintro e w3 ⟨rfl, rfl⟩)
    | (go_at_call 61; (with_reducible refine (Hord.out _).mono ?_); rintro e w3 ⟨rfl, rfl⟩)
    | (go_at_call 50; (with_reducible refine (refForm_4 _).mono ?_); rintro e w3 ⟨rfl, rfl⟩))
  go_ret
  exact ⟨rfl, HB1.out.alloc HB1.out.size _⟩

set_option maxHeartbeats 2000000 in
theorem right_4_aq (op : Nat) (h1 : 1 ≤ op) (h2 : op ≤ 113) (hk : frmT op = 4) (i : Ins) (hop : i.op = op) (rdl : ¬ i.rd < 0) (rdh : ¬ 31 < i.rd) (al : ¬ i.a < 0) (ah : ¬ 31 < i.a) (bl : ¬ i.b < 0) (bh : ¬ 31 < i.b) (csrl : ¬ i.csr < 0) (csrh : ¬ 4095 < i.csr) (zrd : (i.rd != 0) = false) (zcsr : (i.csr != 0) = false) (zaq : i.aq = true) (w : World) :
    Calls Tryz.prog 30 #[.agg #[.int .i64 i.op, .int .i64 i.rd, .int .i64 i.a, .int .i64 i.b, .int .i64 i.imm, .int .i64 i.csr, .bool i.aq, .bool i.rl]] w fun e w' => e = .returned (.bool (false)) ∧ Below w.heap.size w w' := by
  have HR : Hid (∀ w, Calls Tryz.prog 31 #[.int .i64 i.op] w fun e w' => e = .returned (.agg #[.string (nameT op), .int .u32 (mskT op), .int .u32 (matT op), .int .u8 83]) ∧ Below w.heap.size w w') := Lib.hid fun w => by rw [hop]; have h := refRow_any op h1 h2 w; rw [hk] at h; exact h
  have Hrd : Hid (∀ w, Calls Tryz.prog 61 #[.int .u8 83, .string ⟨#[85, 74, 73, 72, 87, 82, 76, 65, 67, 90, 86]⟩] w fun e w' => e = .returned (.bool false) ∧ w = w') := Lib.hid fun w => has_rd 4 (by omega) w
  have Ha : Hid (∀ w, Calls Tryz.prog 61 #[.int .u8 83, .string ⟨#[73, 72, 87, 66, 83, 70, 82, 76, 65, 67, 86]⟩] w fun e w' => e = .returned (.bool true) ∧ w = w') := Lib.hid fun w => has_a 4 (by omega) w
  have Hb : Hid (∀ w, Calls Tryz.prog 61 #[.int .u8 83, .string ⟨#[66, 83, 70, 82, 65]⟩] w fun e w' => e = .returned (.bool true) ∧ w = w') := Lib.hid fun w => has_b 4 (by omega) w
  have Hcsr : Hid (∀ w, Calls Tryz.prog 61 #[.int .u8 83, .string ⟨#[67, 90]⟩] w fun e w' => e = .returned (.bool false) ∧ w = w') := Lib.hid fun w => has_csr 4 (by omega) w
  have Hord : Hid (∀ w, Calls Tryz.prog 61 #[.int .u8 83, .string ⟨#[76, 65]⟩] w fun e w' => e = .returned (.bool false) ∧ w = w') := Lib.hid fun w => has_ord 4 (by omega) w
  have o1 : ¬ i.op < 1 := by omega
  have o2 : ¬ 113 < i.op := by omega
  clear h1 h2 hop hk
  generalize nameT op = nm at *
  generalize (mskT op : Int) = mk at *
  generalize (matT op : Int) = mt at *
  go_enter Tryz.func30, Tryz.ntmps30
  go_wp2_with (first
    | (go_at_call 31; (with_reducible refine (HR.out _).mono ?_); rintro e1 w1 ⟨rfl, hb1⟩; have HB1 : Hid (Below w.heap.size w w1) := Lib.hid (((Below.refl _ _).alloc (Nat.le_refl _) _).trans (hb1.mono (by simp))); have hs1 : w.heap.size < w1.heap.size := (by have := hb1.size; simp at this; omega); have HIR : Hid (w1.heap[w.heap.size]? = some (.cells #[.int .i64 i.op, .int .i64 i.rd, .int .i64 i.a, .int .i64 i.b, .int .i64 i.imm, .int .i64 i.csr, .bool true, .bool i.rl] 23 (0, 0))) := Lib.hid ((hb1.block _ (by simp)).trans (heap_alloc_new w _)); have d0 : w1.cell? ⟨w.heap.size, 0, none⟩ = some (.int .i64 i.op) := (by rw [cell_of_row _ _ _ _ _ _ HIR.out]; rfl); have d1 : w1.cell? ⟨w.heap.size, 1, none⟩ = some (.int .i64 i.rd) := (by rw [cell_of_row _ _ _ _ _ _ HIR.out]; rfl); have d2 : w1.cell? ⟨w.heap.size, 2, none⟩ = some (.int .i64 i.a) := (by rw [cell_of_row _ _ _ _ _ _ HIR.out]; rfl); have d3 : w1.cell? ⟨w.heap.size, 3, none⟩ = some (.int .i64 i.b) := (by rw [cell_of_row _ _ _ _ _ _ HIR.out]; rfl); have d4 : w1.cell? ⟨w.heap.size, 4, none⟩ = some (.int .i64 i.imm) := (by rw [cell_of_row _ _ _ _ _ _ HIR.out]; rfl); have d5 : w1.cell? ⟨w.heap.size, 5, none⟩ = some (.int .i64 i.csr) := (by rw [cell_of_row _ _ _ _ _ _ HIR.out]; rfl); have d6 : w1.cell? ⟨w.heap.size, 6, none⟩ = some (.bool true) := (by rw [cell_of_row _ _ _ _ _ _ HIR.out]; rfl); have d7 : w1.cell? ⟨w.heap.size, 7, none⟩ = some (.bool i.rl) := (by rw [cell_of_row _ _ _ _ _ _ HIR.out]; rfl); clear hb1)
    | (go_at_call 61; (with_reducible refine (Hrd.out _).mono ?_); rintro e w3 ⟨rfl, rfl⟩)
    | (go_at_call 61; (with_reducible refine (Ha.out _).mono ?_); rintro e w3 ⟨rfl, rfl⟩)
    | (go_at_call 61; (with_reducible refine (Hb.out _).mono ?_); rintro e w3 ⟨rfl, rfl⟩)
    | (go_at_call 61; (with_reducible refine (Hcsr.out _).mono ?_); rintro e w3 ⟨rfl, rfl⟩)
    | (go_at_call 61; (with_reducible refine (Hord.out _).mono ?_); rintro e w3 ⟨rfl, rfl⟩)
    | (go_at_call 50; (with_reducible refine (refForm_4 _).mono ?_); rintro e w3 ⟨rfl, rfl⟩))
  go_ret
  exact ⟨rfl, HB1.out.alloc HB1.out.size _⟩

set_option maxHeartbeats 2000000 in
theorem right_4_rl (op : Nat) (h1 : 1 ≤ op) (h2 : op ≤ 113) (hk : frmT op = 4) (i : Ins) (hop : i.op = op) (rdl : ¬ i.rd < 0) (rdh : ¬ 31 < i.rd) (al : ¬ i.a < 0) (ah : ¬ 31 < i.a) (bl : ¬ i.b < 0) (bh : ¬ 31 < i.b) (csrl : ¬ i.csr < 0) (csrh : ¬ 4095 < i.csr) (zrd : (i.rd != 0) = false) (zcsr : (i.csr != 0) = false) (zaq : i.aq = false) (zrl : i.rl = true) (w : World) :
    Calls Tryz.prog 30 #[.agg #[.int .i64 i.op, .int .i64 i.rd, .int .i64 i.a, .int .i64 i.b, .int .i64 i.imm, .int .i64 i.csr, .bool i.aq, .bool i.rl]] w fun e w' => e = .returned (.bool (false)) ∧ Below w.heap.size w w' := by
  have HR : Hid (∀ w, Calls Tryz.prog 31 #[.int .i64 i.op] w fun e w' => e = .returned (.agg #[.string (nameT op), .int .u32 (mskT op), .int .u32 (matT op), .int .u8 83]) ∧ Below w.heap.size w w') := Lib.hid fun w => by rw [hop]; have h := refRow_any op h1 h2 w; rw [hk] at h; exact h
  have Hrd : Hid (∀ w, Calls Tryz.prog 61 #[.int .u8 83, .string ⟨#[85, 74, 73, 72, 87, 82, 76, 65, 67, 90, 86]⟩] w fun e w' => e = .returned (.bool false) ∧ w = w') := Lib.hid fun w => has_rd 4 (by omega) w
  have Ha : Hid (∀ w, Calls Tryz.prog 61 #[.int .u8 83, .string ⟨#[73, 72, 87, 66, 83, 70, 82, 76, 65, 67, 86]⟩] w fun e w' => e = .returned (.bool true) ∧ w = w') := Lib.hid fun w => has_a 4 (by omega) w
  have Hb : Hid (∀ w, Calls Tryz.prog 61 #[.int .u8 83, .string ⟨#[66, 83, 70, 82, 65]⟩] w fun e w' => e = .returned (.bool true) ∧ w = w') := Lib.hid fun w => has_b 4 (by omega) w
  have Hcsr : Hid (∀ w, Calls Tryz.prog 61 #[.int .u8 83, .string ⟨#[67, 90]⟩] w fun e w' => e = .returned (.bool false) ∧ w = w') := Lib.hid fun w => has_csr 4 (by omega) w
  have Hord : Hid (∀ w, Calls Tryz.prog 61 #[.int .u8 83, .string ⟨#[76, 65]⟩] w fun e w' => e = .returned (.bool false) ∧ w = w') := Lib.hid fun w => has_ord 4 (by omega) w
  have o1 : ¬ i.op < 1 := by omega
  have o2 : ¬ 113 < i.op := by omega
  clear h1 h2 hop hk
  generalize nameT op = nm at *
  generalize (mskT op : Int) = mk at *
  generalize (matT op : Int) = mt at *
  go_enter Tryz.func30, Tryz.ntmps30
  go_wp2_with (first
    | (go_at_call 31; (with_reducible refine (HR.out _).mono ?_); rintro e1 w1 ⟨rfl, hb1⟩; have HB1 : Hid (Below w.heap.size w w1) := Lib.hid (((Below.refl _ _).alloc (Nat.le_refl _) _).trans (hb1.mono (by simp))); have hs1 : w.heap.size < w1.heap.size := (by have := hb1.size; simp at this; omega); have HIR : Hid (w1.heap[w.heap.size]? = some (.cells #[.int .i64 i.op, .int .i64 i.rd, .int .i64 i.a, .int .i64 i.b, .int .i64 i.imm, .int .i64 i.csr, .bool false, .bool true] 23 (0, 0))) := Lib.hid ((hb1.block _ (by simp)).trans (heap_alloc_new w _)); have d0 : w1.cell? ⟨w.heap.size, 0, none⟩ = some (.int .i64 i.op) := (by rw [cell_of_row _ _ _ _ _ _ HIR.out]; rfl); have d1 : w1.cell? ⟨w.heap.size, 1, none⟩ = some (.int .i64 i.rd) := (by rw [cell_of_row _ _ _ _ _ _ HIR.out]; rfl); have d2 : w1.cell? ⟨w.heap.size, 2, none⟩ = some (.int .i64 i.a) := (by rw [cell_of_row _ _ _ _ _ _ HIR.out]; rfl); have d3 : w1.cell? ⟨w.heap.size, 3, none⟩ = some (.int .i64 i.b) := (by rw [cell_of_row _ _ _ _ _ _ HIR.out]; rfl); have d4 : w1.cell? ⟨w.heap.size, 4, none⟩ = some (.int .i64 i.imm) := (by rw [cell_of_row _ _ _ _ _ _ HIR.out]; rfl); have d5 : w1.cell? ⟨w.heap.size, 5, none⟩ = some (.int .i64 i.csr) := (by rw [cell_of_row _ _ _ _ _ _ HIR.out]; rfl); have d6 : w1.cell? ⟨w.heap.size, 6, none⟩ = some (.bool false) := (by rw [cell_of_row _ _ _ _ _ _ HIR.out]; rfl); have d7 : w1.cell? ⟨w.heap.size, 7, none⟩ = some (.bool true) := (by rw [cell_of_row _ _ _ _ _ _ HIR.out]; rfl); clear hb1)
    | (go_at_call 61; (with_reducible refine (Hrd.out _).mono ?_); rintro e w3 ⟨rfl, rfl⟩)
    | (go_at_call 61; (with_reducible refine (Ha.out _).mono ?_); rintro e w3 ⟨rfl, rfl⟩)
    | (go_at_call 61; (with_reducible refine (Hb.out _).mono ?_); rintro e w3 ⟨rfl, rfl⟩)
    | (go_at_call 61; (with_reducible refine (Hcsr.out _).mono ?_); rintro e w3 ⟨rfl, rfl⟩)
    | (go_at_call 61; (with_reducible refine (Hord.out _).mono ?_); rintro e w3 ⟨rfl, rfl⟩)
    | (go_at_call 50; (with_reducible refine (refForm_4 _).mono ?_); rintro e w3 ⟨rfl, rfl⟩))
  go_ret
  exact ⟨rfl, HB1.out.alloc HB1.out.size _⟩

set_option maxHeartbeats 2000000 in
theorem right_4_end (op : Nat) (h1 : 1 ≤ op) (h2 : op ≤ 113) (hk : frmT op = 4) (i : Ins) (hop : i.op = op) (rdl : ¬ i.rd < 0) (rdh : ¬ 31 < i.rd) (al : ¬ i.a < 0) (ah : ¬ 31 < i.a) (bl : ¬ i.b < 0) (bh : ¬ 31 < i.b) (csrl : ¬ i.csr < 0) (csrh : ¬ 4095 < i.csr) (zrd : (i.rd != 0) = false) (zcsr : (i.csr != 0) = false) (zaq : i.aq = false) (zrl : i.rl = false) (w : World) :
    Calls Tryz.prog 30 #[.agg #[.int .i64 i.op, .int .i64 i.rd, .int .i64 i.a, .int .i64 i.b, .int .i64 i.imm, .int .i64 i.csr, .bool i.aq, .bool i.rl]] w fun e w' => e = .returned (.bool ((formL 2).number ((formL 2).word i.imm) == i.imm)) ∧ Below w.heap.size w w' := by
  have HR : Hid (∀ w, Calls Tryz.prog 31 #[.int .i64 i.op] w fun e w' => e = .returned (.agg #[.string (nameT op), .int .u32 (mskT op), .int .u32 (matT op), .int .u8 83]) ∧ Below w.heap.size w w') := Lib.hid fun w => by rw [hop]; have h := refRow_any op h1 h2 w; rw [hk] at h; exact h
  have Hrd : Hid (∀ w, Calls Tryz.prog 61 #[.int .u8 83, .string ⟨#[85, 74, 73, 72, 87, 82, 76, 65, 67, 90, 86]⟩] w fun e w' => e = .returned (.bool false) ∧ w = w') := Lib.hid fun w => has_rd 4 (by omega) w
  have Ha : Hid (∀ w, Calls Tryz.prog 61 #[.int .u8 83, .string ⟨#[73, 72, 87, 66, 83, 70, 82, 76, 65, 67, 86]⟩] w fun e w' => e = .returned (.bool true) ∧ w = w') := Lib.hid fun w => has_a 4 (by omega) w
  have Hb : Hid (∀ w, Calls Tryz.prog 61 #[.int .u8 83, .string ⟨#[66, 83, 70, 82, 65]⟩] w fun e w' => e = .returned (.bool true) ∧ w = w') := Lib.hid fun w => has_b 4 (by omega) w
  have Hcsr : Hid (∀ w, Calls Tryz.prog 61 #[.int .u8 83, .string ⟨#[67, 90]⟩] w fun e w' => e = .returned (.bool false) ∧ w = w') := Lib.hid fun w => has_csr 4 (by omega) w
  have Hord : Hid (∀ w, Calls Tryz.prog 61 #[.int .u8 83, .string ⟨#[76, 65]⟩] w fun e w' => e = .returned (.bool false) ∧ w = w') := Lib.hid fun w => has_ord 4 (by omega) w
  have HFI : Hid (∀ w, Calls Tryz.prog 49 #[.int .i64 2, .int .i64 i.imm] w fun e w' => e = .returned (.bool ((formL 2).number ((formL 2).word i.imm) == i.imm)) ∧ Below w.heap.size w w') := Lib.hid fun w => refFits_form 2 (by omega) i.imm w
  generalize ((formL 2).number ((formL 2).word i.imm) == i.imm) = r at *
  have o1 : ¬ i.op < 1 := by omega
  have o2 : ¬ 113 < i.op := by omega
  clear h1 h2 hop hk
  generalize nameT op = nm at *
  generalize (mskT op : Int) = mk at *
  generalize (matT op : Int) = mt at *
  go_enter Tryz.func30, Tryz.ntmps30
  go_wp2_with (first
    | (go_at_call 31; (with_reducible refine (HR.out _).mono ?_); rintro e1 w1 ⟨rfl, hb1⟩; have HB1 : Hid (Below w.heap.size w w1) := Lib.hid (((Below.refl _ _).alloc (Nat.le_refl _) _).trans (hb1.mono (by simp))); have hs1 : w.heap.size < w1.heap.size := (by have := hb1.size; simp at this; omega); have HIR : Hid (w1.heap[w.heap.size]? = some (.cells #[.int .i64 i.op, .int .i64 i.rd, .int .i64 i.a, .int .i64 i.b, .int .i64 i.imm, .int .i64 i.csr, .bool false, .bool false] 23 (0, 0))) := Lib.hid ((hb1.block _ (by simp)).trans (heap_alloc_new w _)); have d0 : w1.cell? ⟨w.heap.size, 0, none⟩ = some (.int .i64 i.op) := (by rw [cell_of_row _ _ _ _ _ _ HIR.out]; rfl); have d1 : w1.cell? ⟨w.heap.size, 1, none⟩ = some (.int .i64 i.rd) := (by rw [cell_of_row _ _ _ _ _ _ HIR.out]; rfl); have d2 : w1.cell? ⟨w.heap.size, 2, none⟩ = some (.int .i64 i.a) := (by rw [cell_of_row _ _ _ _ _ _ HIR.out]; rfl); have d3 : w1.cell? ⟨w.heap.size, 3, none⟩ = some (.int .i64 i.b) := (by rw [cell_of_row _ _ _ _ _ _ HIR.out]; rfl); have d4 : w1.cell? ⟨w.heap.size, 4, none⟩ = some (.int .i64 i.imm) := (by rw [cell_of_row _ _ _ _ _ _ HIR.out]; rfl); have d5 : w1.cell? ⟨w.heap.size, 5, none⟩ = some (.int .i64 i.csr) := (by rw [cell_of_row _ _ _ _ _ _ HIR.out]; rfl); have d6 : w1.cell? ⟨w.heap.size, 6, none⟩ = some (.bool false) := (by rw [cell_of_row _ _ _ _ _ _ HIR.out]; rfl); have d7 : w1.cell? ⟨w.heap.size, 7, none⟩ = some (.bool false) := (by rw [cell_of_row _ _ _ _ _ _ HIR.out]; rfl); clear hb1)
    | (go_at_call 61; (with_reducible refine (Hrd.out _).mono ?_); rintro e w3 ⟨rfl, rfl⟩)
    | (go_at_call 61; (with_reducible refine (Ha.out _).mono ?_); rintro e w3 ⟨rfl, rfl⟩)
    | (go_at_call 61; (with_reducible refine (Hb.out _).mono ?_); rintro e w3 ⟨rfl, rfl⟩)
    | (go_at_call 61; (with_reducible refine (Hcsr.out _).mono ?_); rintro e w3 ⟨rfl, rfl⟩)
    | (go_at_call 61; (with_reducible refine (Hord.out _).mono ?_); rintro e w3 ⟨rfl, rfl⟩)
    | (go_at_call 50; (with_reducible refine (refForm_4 _).mono ?_); rintro e w3 ⟨rfl, rfl⟩))
  have HB2 : Hid (Below w.heap.size w (w1.alloc (.cells #[.string nm, .int .u32 mk, .int .u32 mt, .int .u8 83] 59))) := Lib.hid (HB1.out.alloc HB1.out.size _)
  have q3 : (w1.alloc (.cells #[.string nm, .int .u32 mk, .int .u32 mt, .int .u8 83] 59)).cell? ⟨w1.heap.size, 3, none⟩ = some (.int .u8 83) := World.cell?_alloc_at _ _ _ _ rfl
  have q4 : (w1.alloc (.cells #[.string nm, .int .u32 mk, .int .u32 mt, .int .u8 83] 59)).cell? ⟨w.heap.size, 4, none⟩ = some (.int .i64 i.imm) := by go_simp
  have s1 : w1.heap.size < (w1.alloc (.cells #[.string nm, .int .u32 mk, .int .u32 mt, .int .u8 83] 59)).heap.size := by rw [World.size_alloc]; omega
  have s2 : w.heap.size < (w1.alloc (.cells #[.string nm, .int .u32 mk, .int .u32 mt, .int .u8 83] 59)).heap.size := by rw [World.size_alloc]; omega
  clear d0 d1 d2 d3 d4 d5 d6 d7 HIR HB1
  generalize hw2 : (w1.alloc (.cells #[.string nm, .int .u32 mk, .int .u32 mt, .int .u8 83] 59)) = w2 at *
  clear hw2
  generalize w1.heap.size = m at *
  generalize hn : w.heap.size = n at *
  have HNN := Lib.hid hn
  clear hn
  go_region_held3 (fun w' => w'.cell? ⟨m, 3, none⟩ = some (.int .u8 83) ∧ w'.cell? ⟨n, 4, none⟩ = some (.int .i64 i.imm)) (go_keep)
    (first
      | (go_at_call 50; refine (refForm_4 _).mono ?_; rintro e w3 ⟨rfl, rfl⟩)
      | (go_at_call 49; refine (HFI.out _).mono ?_; rintro e w4 ⟨rfl, hb4⟩; have g3 := (hb4.cell (p := ⟨m, 3, none⟩) s1).trans q3; have g4 := (hb4.cell (p := ⟨n, 4, none⟩) s2).trans q4; have HB4 := Lib.hid (HB2.out.trans (((Below.refl _ _).drew.trans hb4).mono (Nat.le_of_lt s2))); clear hb4))
  go_wp2
  go_ret
  exact ⟨rfl, by rw [HNN.out]; exact HB4.out⟩

end Go.Proofs.YtakdhdaoklcidaaGreatDoor
