/- Joined: DtC DtD -/
import Derived.Test.YtakdhdaoklcidaaGreatDoorKQ6
import Derived.Deep.RegionHeld3
namespace Go.Proofs.YtakdhdaoklcidaaGreatDoor
open Go.RowKit
set_option linter.unusedVariables false
set_option maxRecDepth 100000

set_option maxHeartbeats 2000000 in
theorem right_5_b (op : Nat) (h1 : 1 ≤ op) (h2 : op ≤ 113) (hk : frmT op = 5) (i : Ins) (hop : i.op = op) (rdl : ¬ i.rd < 0) (rdh : ¬ 31 < i.rd) (al : ¬ i.a < 0) (ah : ¬ 31 < i.a) (bl : ¬ i.b < 0) (bh : ¬ 31 < i.b) (csrl : ¬ i.csr < 0) (csrh : ¬ 4095 < i.csr) (zb : (i.b != 0) = true) (w : World) :
    Calls Tryz.prog 30 #[.agg #[.int .i64 i.op, .int .i64 i.rd, .int .i64 i.a, .int .i64 i.b, .int .i64 i.imm, .int .i64 i.csr, .bool i.aq, .bool i.rl]] w fun e w' => e = .returned (.bool (false)) ∧ Below w.heap.size w w' := by
  have HR : Hid (∀ w, Calls Tryz.prog 31 #[.int .i64 i.op] w fun e w' => e = .returned (.agg #[.string (nameT op), .int .u32 (mskT op), .int .u32 (matT op), .int .u8 72]) ∧ Below w.heap.size w w') := Lib.hid fun w => by rw [hop]; have h := refRow_any op h1 h2 w; rw [hk] at h; exact h
  have Hrd : Hid (∀ w, Calls Tryz.prog 61 #[.int .u8 72, .string ⟨#[85, 74, 73, 72, 87, 82, 76, 65, 67, 90, 86]⟩] w fun e w' => e = .returned (.bool true) ∧ w = w') := Lib.hid fun w => has_rd 5 (by omega) w
  have Ha : Hid (∀ w, Calls Tryz.prog 61 #[.int .u8 72, .string ⟨#[73, 72, 87, 66, 83, 70, 82, 76, 65, 67, 86]⟩] w fun e w' => e = .returned (.bool true) ∧ w = w') := Lib.hid fun w => has_a 5 (by omega) w
  have Hb : Hid (∀ w, Calls Tryz.prog 61 #[.int .u8 72, .string ⟨#[66, 83, 70, 82, 65]⟩] w fun e w' => e = .returned (.bool false) ∧ w = w') := Lib.hid fun w => has_b 5 (by omega) w
  have Hcsr : Hid (∀ w, Calls Tryz.prog 61 #[.int .u8 72, .string ⟨#[67, 90]⟩] w fun e w' => e = .returned (.bool false) ∧ w = w') := Lib.hid fun w => has_csr 5 (by omega) w
  have Hord : Hid (∀ w, Calls Tryz.prog 61 #[.int .u8 72, .string ⟨#[76, 65]⟩] w fun e w' => e = .returned (.bool false) ∧ w = w') := Lib.hid fun w => has_ord 5 (by omega) w
  have o1 : ¬ i.op < 1 := by omega
  have o2 : ¬ 113 < i.op := by omega
  clear h1 h2 hop hk
  generalize nameT op = nm at *
  generalize (mskT op : Int) = mk at *
  generalize (matT op : Int) = mt at *
  go_enter Tryz.func30, Tryz.ntmps30
  go_wp2_with (first
    | (go_at_call 31; (with_reducible refine (HR.out _).mono ?_); rintro e1 w1 ⟨rfl, hb1⟩; have HB1 : Hid (Below w.heap.size w w1) := Lib.hid (((Below.refl _ _).alloc (Nat.le_refl _) _).trans (hb1.mono (by simp))); have hs1 : w.heap.size < w1.heap.size := (by have := hb1.size; simp at this; omega); have HIR : Hid (w1.heap[w.heap.size]? = some (.cells #[.int .i64 i.op, .int .i64 i.rd, .int .i64 i.a, .int .i64 i.b, .int .i64 i.imm, .int .i64 i.csr, .bool i.aq, .bool i.rl] 23 (0, 0))) := Lib.hid ((hb1.block _ (by simp)).trans (heap_alloc_new w _)); have d0 : w1.cell? ⟨w.heap.size, 0, none⟩ = some (.int .i64 i.op) := (by rw [cell_of_row _ _ _ _ _ _ HIR.out]; rfl); have d1 : w1.cell? ⟨w.heap.size, 1, none⟩ = some (.int .i64 i.rd) := (by rw [cell_of_row _ _ _ _ _ _ HIR.out]; rfl); have d2 : w1.cell? ⟨w.heap.size, 2, none⟩ = some (.int .i64 i.a) := (by rw [cell_of_row _ _ _ _ _ _ HIR.out]; rfl); have d3 : w1.cell? ⟨w.heap.size, 3, none⟩ = some (.int .i64 i.b) := (by rw [cell_of_row _ _ _ _ _ _ HIR.out]; rfl); have d4 : w1.cell? ⟨w.heap.size, 4, none⟩ = some (.int .i64 i.imm) := (by rw [cell_of_row _ _ _ _ _ _ HIR.out]; rfl); have d5 : w1.cell? ⟨w.heap.size, 5, none⟩ = some (.int .i64 i.csr) := (by rw [cell_of_row _ _ _ _ _ _ HIR.out]; rfl); have d6 : w1.cell? ⟨w.heap.size, 6, none⟩ = some (.bool i.aq) := (by rw [cell_of_row _ _ _ _ _ _ HIR.out]; rfl); have d7 : w1.cell? ⟨w.heap.size, 7, none⟩ = some (.bool i.rl) := (by rw [cell_of_row _ _ _ _ _ _ HIR.out]; rfl); clear hb1)
    | (go_at_call 61; (with_reducible refine (Hrd.out _).mono ?_); rintro e w3 ⟨rfl, rfl⟩)
    | (go_at_call 61; (with_reducible refine (Ha.out _).mono ?_); rintro e w3 ⟨rfl, rfl⟩)
    | (go_at_call 61; (with_reducible refine (Hb.out _).mono ?_); rintro e w3 ⟨rfl, rfl⟩)
    | (go_at_call 61; (with_reducible refine (Hcsr.out _).mono ?_); rintro e w3 ⟨rfl, rfl⟩)
    | (go_at_call 61; (with_reducible refine (Hord.out _).mono ?_); rintro e w3 ⟨rfl, rfl⟩)
    | (go_at_call 50; (with_reducible refine (refForm_5 _).mono ?_); rintro e w3 ⟨rfl, rfl⟩))
  go_ret
  exact ⟨rfl, HB1.out.alloc HB1.out.size _⟩

set_option maxHeartbeats 2000000 in
theorem right_5_csr (op : Nat) (h1 : 1 ≤ op) (h2 : op ≤ 113) (hk : frmT op = 5) (i : Ins) (hop : i.op = op) (rdl : ¬ i.rd < 0) (rdh : ¬ 31 < i.rd) (al : ¬ i.a < 0) (ah : ¬ 31 < i.a) (bl : ¬ i.b < 0) (bh : ¬ 31 < i.b) (csrl : ¬ i.csr < 0) (csrh : ¬ 4095 < i.csr) (zb : (i.b != 0) = false) (zcsr : (i.csr != 0) = true) (w : World) :
    Calls Tryz.prog 30 #[.agg #[.int .i64 i.op, .int .i64 i.rd, .int .i64 i.a, .int .i64 i.b, .int .i64 i.imm, .int .i64 i.csr, .bool i.aq, .bool i.rl]] w fun e w' => e = .returned (.bool (false)) ∧ Below w.heap.size w w' := by
  have HR : Hid (∀ w, Calls Tryz.prog 31 #[.int .i64 i.op] w fun e w' => e = .returned (.agg #[.string (nameT op), .int .u32 (mskT op), .int .u32 (matT op), .int .u8 72]) ∧ Below w.heap.size w w') := Lib.hid fun w => by rw [hop]; have h := refRow_any op h1 h2 w; rw [hk] at h; exact h
  have Hrd : Hid (∀ w, Calls Tryz.prog 61 #[.int .u8 72, .string ⟨#[85, 74, 73, 72, 87, 82, 76, 65, 67, 90, 86]⟩] w fun e w' => e = .returned (.bool true) ∧ w = w') := Lib.hid fun w => has_rd 5 (by omega) w
  have Ha : Hid (∀ w, Calls Tryz.prog 61 #[.int .u8 72, .string ⟨#[73, 72, 87, 66, 83, 70, 82, 76, 65, 67, 86]⟩] w fun e w' => e = .returned (.bool true) ∧ w = w') := Lib.hid fun w => has_a 5 (by omega) w
  have Hb : Hid (∀ w, Calls Tryz.prog 61 #[.int .u8 72, .string ⟨#[66, 83, 70, 82, 65]⟩] w fun e w' => e = .returned (.bool false) ∧ w = w') := Lib.hid fun w => has_b 5 (by omega) w
  have Hcsr : Hid (∀ w, Calls Tryz.prog 61 #[.int .u8 72, .string ⟨#[67, 90]⟩] w fun e w' => e = .returned (.bool false) ∧ w = w') := Lib.hid fun w => has_csr 5 (by omega) w
  have Hord : Hid (∀ w, Calls Tryz.prog 61 #[.int .u8 72, .string ⟨#[76, 65]⟩] w fun e w' => e = .returned (.bool false) ∧ w = w') := Lib.hid fun w => has_ord 5 (by omega) w
  have o1 : ¬ i.op < 1 := by omega
  have o2 : ¬ 113 < i.op := by omega
  clear h1 h2 hop hk
  generalize nameT op = nm at *
  generalize (mskT op : Int) = mk at *
  generalize (matT op : Int) = mt at *
  go_enter Tryz.func30, Tryz.ntmps30
  go_wp2_with (first
    | (go_at_call 31; (with_reducible refine (HR.out _).mono ?_); rintro e1 w1 ⟨rfl, hb1⟩; have HB1 : Hid (Below w.heap.size w w1) := Lib.hid (((Below.refl _ _).alloc (Nat.le_refl _) _).trans (hb1.mono (by simp))); have hs1 : w.heap.size < w1.heap.size := (by have := hb1.size; simp at this; omega); have HIR : Hid (w1.heap[w.heap.size]? = some (.cells #[.int .i64 i.op, .int .i64 i.rd, .int .i64 i.a, .int .i64 i.b, .int .i64 i.imm, .int .i64 i.csr, .bool i.aq, .bool i.rl] 23 (0, 0))) := Lib.hid ((hb1.block _ (by simp)).trans (heap_alloc_new w _)); have d0 : w1.cell? ⟨w.heap.size, 0, none⟩ = some (.int .i64 i.op) := (by rw [cell_of_row _ _ _ _ _ _ HIR.out]; rfl); have d1 : w1.cell? ⟨w.heap.size, 1, none⟩ = some (.int .i64 i.rd) := (by rw [cell_of_row _ _ _ _ _ _ HIR.out]; rfl); have d2 : w1.cell? ⟨w.heap.size, 2, none⟩ = some (.int .i64 i.a) := (by rw [cell_of_row _ _ _ _ _ _ HIR.out]; rfl); have d3 : w1.cell? ⟨w.heap.size, 3, none⟩ = some (.int .i64 i.b) := (by rw [cell_of_row _ _ _ _ _ _ HIR.out]; rfl); have d4 : w1.cell? ⟨w.heap.size, 4, none⟩ = some (.int .i64 i.imm) := (by rw [cell_of_row _ _ _ _ _ _ HIR.out]; rfl); have d5 : w1.cell? ⟨w.heap.size, 5, none⟩ = some (.int .i64 i.csr) := (by rw [cell_of_row _ _ _ _ _ _ HIR.out]; rfl); have d6 : w1.cell? ⟨w.heap.size, 6, none⟩ = some (.bool i.aq) := (by rw [cell_of_row _ _ _ _ _ _ HIR.out]; rfl); have d7 : w1.cell? ⟨w.heap.size, 7, none⟩ = some (.bool i.rl) := (by rw [cell_of_row _ _ _ _ _ _ HIR.out]; rfl); clear hb1)
    | (go_at_call 61; (with_reducible refine (Hrd.out _).mono ?_); rintro e w3 ⟨rfl, rfl⟩)
    | (go_at_call 61; (with_reducible refine (Ha.out _).mono ?_); rintro e w3 ⟨rfl, rfl⟩)
    | (go_at_call 61; (with_reducible refine (Hb.out _).mono ?_); rintro e w3 ⟨rfl, rfl⟩)
    | (go_at_call 61; (with_reducible refine (Hcsr.out _).mono ?_); rintro e w3 ⟨rfl, rfl⟩)
    | (go_at_call 61; (with_reducible refine (Hord.out _).mono ?_); rintro e w3 ⟨rfl, rfl⟩)
    | (go_at_call 50; (with_reducible refine (refForm_5 _).mono ?_); rintro e w3 ⟨rfl, rfl⟩))
  go_ret
  exact ⟨rfl, HB1.out.alloc HB1.out.size _⟩

set_option maxHeartbeats 2000000 in
theorem right_5_aq (op : Nat) (h1 : 1 ≤ op) (h2 : op ≤ 113) (hk : frmT op = 5) (i : Ins) (hop : i.op = op) (rdl : ¬ i.rd < 0) (rdh : ¬ 31 < i.rd) (al : ¬ i.a < 0) (ah : ¬ 31 < i.a) (bl : ¬ i.b < 0) (bh : ¬ 31 < i.b) (csrl : ¬ i.csr < 0) (csrh : ¬ 4095 < i.csr) (zb : (i.b != 0) = false) (zcsr : (i.csr != 0) = false) (zaq : i.aq = true) (w : World) :
    Calls Tryz.prog 30 #[.agg #[.int .i64 i.op, .int .i64 i.rd, .int .i64 i.a, .int .i64 i.b, .int .i64 i.imm, .int .i64 i.csr, .bool i.aq, .bool i.rl]] w fun e w' => e = .returned (.bool (false)) ∧ Below w.heap.size w w' := by
  have HR : Hid (∀ w, Calls Tryz.prog 31 #[.int .i64 i.op] w fun e w' => e = .returned (.agg #[.string (nameT op), .int .u32 (mskT op), .int .u32 (matT op), .int .u8 72]) ∧ Below w.heap.size w w') := Lib.hid fun w => by rw [hop]; have h := refRow_any op h1 h2 w; rw [hk] at h; exact h
  have Hrd : Hid (∀ w, Calls Tryz.prog 61 #[.int .u8 72, .string ⟨#[85, 74, 73, 72, 87, 82, 76, 65, 67, 90, 86]⟩] w fun e w' => e = .returned (.bool true) ∧ w = w') := Lib.hid fun w => has_rd 5 (by omega) w
  have Ha : Hid (∀ w, Calls Tryz.prog 61 #[.int .u8 72, .string ⟨#[73, 72, 87, 66, 83, 70, 82, 76, 65, 67, 86]⟩] w fun e w' => e = .returned (.bool true) ∧ w = w') := Lib.hid fun w => has_a 5 (by omega) w
  have Hb : Hid (∀ w, Calls Tryz.prog 61 #[.int .u8 72, .string ⟨#[66, 83, 70, 82, 65]⟩] w fun e w' => e = .returned (.bool false) ∧ w = w') := Lib.hid fun w => has_b 5 (by omega) w
  have Hcsr : Hid (∀ w, Calls Tryz.prog 61 #[.int .u8 72, .string ⟨#[67, 90]⟩] w fun e w' => e = .returned (.bool false) ∧ w = w') := Lib.hid fun w => has_csr 5 (by omega) w
  have Hord : Hid (∀ w, Calls Tryz.prog 61 #[.int .u8 72, .string ⟨#[76, 65]⟩] w fun e w' => e = .returned (.bool false) ∧ w = w') := Lib.hid fun w => has_ord 5 (by omega) w
  have o1 : ¬ i.op < 1 := by omega
  have o2 : ¬ 113 < i.op := by omega
  clear h1 h2 hop hk
  generalize nameT op = nm at *
  generalize (mskT op : Int) = mk at *
  generalize (matT op : Int) = mt at *
  go_enter Tryz.func30, Tryz.ntmps30
  go_wp2_with (first
    | (go_at_call 31; (with_reducible refine (HR.out _).mono ?_); rintro e1 w1 ⟨rfl, hb1⟩; have HB1 : Hid (Below w.heap.size w w1) := Lib.hid (((Below.refl _ _).alloc (Nat.le_refl _) _).trans (hb1.mono (by simp))); have hs1 : w.heap.size < w1.heap.size := (by have := hb1.size; simp at this; omega); have HIR : Hid (w1.heap[w.heap.size]? = some (.cells #[.int .i64 i.op, .int .i64 i.rd, .int .i64 i.a, .int .i64 i.b, .int .i64 i.imm, .int .i64 i.csr, .bool true, .bool i.rl] 23 (0, 0))) := Lib.hid ((hb1.block _ (by simp)).trans (heap_alloc_new w _)); have d0 : w1.cell? ⟨w.heap.size, 0, none⟩ = some (.int .i64 i.op) := (by rw [cell_of_row _ _ _ _ _ _ HIR.out]; rfl); have d1 : w1.cell? ⟨w.heap.size, 1, none⟩ = some (.int .i64 i.rd) := (by rw [cell_of_row _ _ _ _ _ _ HIR.out]; rfl); have d2 : w1.cell? ⟨w.heap.size, 2, none⟩ = some (.int .i64 i.a) := (by rw [cell_of_row _ _ _ _ _ _ HIR.out]; rfl); have d3 : w1.cell? ⟨w.heap.size, 3, none⟩ = some (.int .i64 i.b) := (by rw [cell_of_row _ _ _ _ _ _ HIR.out]; rfl); have d4 : w1.cell? ⟨w.heap.size, 4, none⟩ = some (.int .i64 i.imm) := (by rw [cell_of_row _ _ _ _ _ _ HIR.out]; rfl); have d5 : w1.cell? ⟨w.heap.size, 5, none⟩ = some (.int .i64 i.csr) := (by rw [cell_of_row _ _ _ _ _ _ HIR.out]; rfl); have d6 : w1.cell? ⟨w.heap.size, 6, none⟩ = some (.bool true) := (by rw [cell_of_row _ _ _ _ _ _ HIR.out]; rfl); have d7 : w1.cell? ⟨w.heap.size, 7, none⟩ = some (.bool i.rl) := (by rw [cell_of_row _ _ _ _ _ _ HIR.out]; rfl); clear hb1)
    | (go_at_call 61; (with_reducible refine (Hrd.out _).mono ?_); rintro e w3 ⟨rfl, rfl⟩)
    | (go_at_call 61; (with_reducible refine (Ha.out _).mono ?_); rintro e w3 ⟨rfl, rfl⟩)
    | (go_at_call 61; (with_reducible refine (Hb.out _).mono ?_); rintro e w3 ⟨rfl, rfl⟩)
    | (go_at_call 61; (with_reducible refine (Hcsr.out _).mono ?_); rintro e w3 ⟨rfl, rfl⟩)
    | (go_at_call 61; (with_reducible refine (Hord.out _).mono ?_); rintro e w3 ⟨rfl, rfl⟩)
    | (go_at_call 50; (with_reducible refine (refForm_5 _).mono ?_); rintro e w3 ⟨rfl, rfl⟩))
  go_ret
  exact ⟨rfl, HB1.out.alloc HB1.out.size _⟩

set_option maxHeartbeats 2000000 in
theorem right_5_rl (op : Nat) (h1 : 1 ≤ op) (h2 : op ≤ 113) (hk : frmT op = 5) (i : Ins) (hop : i.op = op) (rdl : ¬ i.rd < 0) (rdh : ¬ 31 < i.rd) (al : ¬ i.a < 0) (ah : ¬ 31 < i.a) (bl : ¬ i.b < 0) (bh : ¬ 31 < i.b) (csrl : ¬ i.csr < 0) (csrh : ¬ 4095 < i.csr) (zb : (i.b != 0) = false) (zcsr : (i.csr != 0) = false) (zaq : i.aq = false) (zrl : i.rl = true) (w : World) :
    Calls Tryz.prog 30 #[.agg #[.int .i64 i.op, .int .i64 i.rd, .int .i64 i.a, .int .i64 i.b, .int .i64 i.imm, .int .i64 i.csr, .bool i.aq, .bool i.rl]] w fun e w' => e = .returned (.bool (false)) ∧ Below w.heap.size w w' := by
  have HR : Hid (∀ w, Calls Tryz.prog 31 #[.int .i64 i.op] w fun e w' => e = .returned (.agg #[.string (nameT op), .int .u32 (mskT op), .int .u32 (matT op), .int .u8 72]) ∧ Below w.heap.size w w') := Lib.hid fun w => by rw [hop]; have h := refRow_any op h1 h2 w; rw [hk] at h; exact h
  have Hrd : Hid (∀ w, Calls Tryz.prog 61 #[.int .u8 72, .string ⟨#[85, 74, 73, 72, 87, 82, 76, 65, 67, 90, 86]⟩] w fun e w' => e = .returned (.bool true) ∧ w = w') := Lib.hid fun w => has_rd 5 (by omega) w
  have Ha : Hid (∀ w, Calls Tryz.prog 61 #[.int .u8 72, .string ⟨#[73, 72, 87, 66, 83, 70, 82, 76, 65, 67, 86]⟩] w fun e w' => e = .returned (.bool true) ∧ w = w') := Lib.hid fun w => has_a 5 (by omega) w
  have Hb : Hid (∀ w, Calls Tryz.prog 61 #[.int .u8 72, .string ⟨#[66, 83, 70, 82, 65]⟩] w fun e w' => e = .returned (.bool false) ∧ w = w') := Lib.hid fun w => has_b 5 (by omega) w
  have Hcsr : Hid (∀ w, Calls Tryz.prog 61 #[.int .u8 72, .string ⟨#[67, 90]⟩] w fun e w' => e = .returned (.bool false) ∧ w = w') := Lib.hid fun w => has_csr 5 (by omega) w
  have Hord : Hid (∀ w, Calls Tryz.prog 61 #[.int .u8 72, .string ⟨#[76, 65]⟩] w fun e w' => e = .returned (.bool false) ∧ w = w') := Lib.hid fun w => has_ord 5 (by omega) w
  have o1 : ¬ i.op < 1 := by omega
  have o2 : ¬ 113 < i.op := by omega
  clear h1 h2 hop hk
  generalize nameT op = nm at *
  generalize (mskT op : Int) = mk at *
  generalize (matT op : Int) = mt at *
  go_enter Tryz.func30, Tryz.ntmps30
  go_wp2_with (first
    | (go_at_call 31; (with_reducible refine (HR.out _).mono ?_); rintro e1 w1 ⟨rfl, hb1⟩; have HB1 : Hid (Below w.heap.size w w1) := Lib.hid (((Below.refl _ _).alloc (Nat.le_refl _) _).trans (hb1.mono (by simp))); have hs1 : w.heap.size < w1.heap.size := (by have := hb1.size; simp at this; omega); have HIR : Hid (w1.heap[w.heap.size]? = some (.cells #[.int .i64 i.op, .int .i64 i.rd, .int .i64 i.a, .int .i64 i.b, .int .i64 i.imm, .int .i64 i.csr, .bool false, .bool true] 23 (0, 0))) := Lib.hid ((hb1.block _ (by simp)).trans (heap_alloc_new w _)); have d0 : w1.cell? ⟨w.heap.size, 0, none⟩ = some (.int .i64 i.op) := (by rw [cell_of_row _ _ _ _ _ _ HIR.out]; rfl); have d1 : w1.cell? ⟨w.heap.size, 1, none⟩ = some (.int .i64 i.rd) := (by rw [cell_of_row _ _ _ _ _ _ HIR.out]; rfl); have d2 : w1.cell? ⟨w.heap.size, 2, none⟩ = some (.int .i64 i.a) := (by rw [cell_of_row _ _ _ _ _ _ HIR.out]; rfl); have d3 : w1.cell? ⟨w.heap.size, 3, none⟩ = some (.int .i64 i.b) := (by rw [cell_of_row _ _ _ _ _ _ HIR.out]; rfl); have d4 : w1.cell? ⟨w.heap.size, 4, none⟩ = some (.int .i64 i.imm) := (by rw [cell_of_row _ _ _ _ _ _ HIR.out]; rfl); have d5 : w1.cell? ⟨w.heap.size, 5, none⟩ = some (.int .i64 i.csr) := (by rw [cell_of_row _ _ _ _ _ _ HIR.out]; rfl); have d6 : w1.cell? ⟨w.heap.size, 6, none⟩ = some (.bool false) := (by rw [cell_of_row _ _ _ _ _ _ HIR.out]; rfl); have d7 : w1.cell? ⟨w.heap.size, 7, none⟩ = some (.bool true) := (by rw [cell_of_row _ _ _ _ _ _ HIR.out]; rfl); clear hb1)
    | (go_at_call 61; (with_reducible refine (Hrd.out _).mono ?_); rintro e w3 ⟨rfl, rfl⟩)
    | (go_at_call 61; (with_reducible refine (Ha.out _).mono ?_); rintro e w3 ⟨rfl, rfl⟩)
    | (go_at_call 61; (with_reducible refine (Hb.out _).mono ?_); rintro e w3 ⟨rfl, rfl⟩)
    | (go_at_call 61; (with_reducible refine (Hcsr.out _).mono ?_); rintro e w3 ⟨rfl, rfl⟩)
    | (go_at_call 61; (with_reducible refine (Hord.out _).mono ?_); rintro e w3 ⟨rfl, rfl⟩)
    | (go_at_call 50; (with_reducible refine (refForm_5 _).mono ?_); rintro e w3 ⟨rfl, rfl⟩))
  go_ret
  exact ⟨rfl, HB1.out.alloc HB1.out.size _⟩

set_option maxHeartbeats 2000000 in
theorem right_5_end (op : Nat) (h1 : 1 ≤ op) (h2 : op ≤ 113) (hk : frmT op = 5) (i : Ins) (hop : i.op = op) (rdl : ¬ i.rd < 0) (rdh : ¬ 31 < i.rd) (al : ¬ i.a < 0) (ah : ¬ 31 < i.a) (bl : ¬ i.b < 0) (bh : ¬ 31 < i.b) (csrl : ¬ i.csr < 0) (csrh : ¬ 4095 < i.csr) (zb : (i.b != 0) = false) (zcsr : (i.csr != 0) = false) (zaq : i.aq = false) (zrl : i.rl = false) (w : World) :
    Calls Tryz.prog 30 #[.agg #[.int .i64 i.op, .int .i64 i.rd, .int .i64 i.a, .int .i64 i.b, .int .i64 i.imm, .int .i64 i.csr, .bool i.aq, .bool i.rl]] w fun e w' => e = .returned (.bool ((formL 6).number ((formL 6).word i.imm) == i.imm)) ∧ Below w.heap.size w w' := by
  have HR : Hid (∀ w, Calls Tryz.prog 31 #[.int .i64 i.op] w fun e w' => e = .returned (.agg #[.string (nameT op), .int .u32 (mskT op), .int .u32 (matT op), .int .u8 72]) ∧ Below w.heap.size w w') := Lib.hid fun w => by rw [hop]; have h := refRow_any op h1 h2 w; rw [hk] at h; exact h
  have Hrd : Hid (∀ w, Calls Tryz.prog 61 #[.int .u8 72, .string ⟨#[85, 74, 73, 72, 87, 82, 76, 65, 67, 90, 86]⟩] w fun e w' => e = .returned (.bool true) ∧ w = w') := Lib.hid fun w => has_rd 5 (by omega) w
  have Ha : Hid (∀ w, Calls Tryz.prog 61 #[.int .u8 72, .string ⟨#[73, 72, 87, 66, 83, 70, 82, 76, 65, 67, 86]⟩] w fun e w' => e = .returned (.bool true) ∧ w = w') := Lib.hid fun w => has_a 5 (by omega) w
  have Hb : Hid (∀ w, Calls Tryz.prog 61 #[.int .u8 72, .string ⟨#[66, 83, 70, 82, 65]⟩] w fun e w' => e = .returned (.bool false) ∧ w = w') := Lib.hid fun w => has_b 5 (by omega) w
  have Hcsr : Hid (∀ w, Calls Tryz.prog 61 #[.int .u8 72, .string ⟨#[67, 90]⟩] w fun e w' => e = .returned (.bool false) ∧ w = w') := Lib.hid fun w => has_csr 5 (by omega) w
  have Hord : Hid (∀ w, Calls Tryz.prog 61 #[.int .u8 72, .string ⟨#[76, 65]⟩] w fun e w' => e = .returned (.bool false) ∧ w = w') := Lib.hid fun w => has_ord 5 (by omega) w
  have HFI : Hid (∀ w, Calls Tryz.prog 49 #[.int .i64 6, .int .i64 i.imm] w fun e w' => e = .returned (.bool ((formL 6).number ((formL 6).word i.imm) == i.imm)) ∧ Below w.heap.size w w') := Lib.hid fun w => refFits_form 6 (by omega) i.imm w
  generalize ((formL 6).number ((formL 6).word i.imm) == i.imm) = r at *
  have o1 : ¬ i.op < 1 := by omega
  have o2 : ¬ 113 < i.op := by omega
  clear h1 h2 hop hk
  generalize nameT op = nm at *
  generalize (mskT op : Int) = mk at *
  generalize (matT op : Int) = mt at *
  go_enter Tryz.func30, Tryz.ntmps30
  go_wp2_with (first
    | (go_at_call 31; (with_reducible refine (HR.out _).mono ?_); rintro e1 w1 ⟨rfl, hb1⟩; have HB1 : Hid (Below w.heap.size w w1) := Lib.hid (((Below.refl _ _).alloc (Nat.le_refl _) _).trans (hb1.mono (by simp))); have hs1 : w.heap.size < w1.heap.size := (by have := hb1.size; simp at this; omega); have HIR : Hid (w1.heap[w.heap.size]? = some (.cells #[.int .i64 i.op, .int .i64 i.rd, .int .i64 i.a, .int .i64 i.b, .int .i64 i.imm, .int .i64 i.csr, .bool false, .bool false] 23 (0, 0))) := Lib.hid ((hb1.block _ (by simp)).trans (heap_alloc_new w _)); have d0 : w1.cell? ⟨w.heap.size, 0, none⟩ = some (.int .i64 i.op) := (by rw [cell_of_row _ _ _ _ _ _ HIR.out]; rfl); have d1 : w1.cell? ⟨w.heap.size, 1, none⟩ = some (.int .i64 i.rd) := (by rw [cell_of_row _ _ _ _ _ _ HIR.out]; rfl); have d2 : w1.cell? ⟨w.heap.size, 2, none⟩ = some (.int .i64 i.a) := (by rw [cell_of_row _ _ _ _ _ _ HIR.out]; rfl); have d3 : w1.cell? ⟨w.heap.size, 3, none⟩ = some (.int .i64 i.b) := (by rw [cell_of_row _ _ _ _ _ _ HIR.out]; rfl); have d4 : w1.cell? ⟨w.heap.size, 4, none⟩ = some (.int .i64 i.imm) := (by rw [cell_of_row _ _ _ _ _ _ HIR.out]; rfl); have d5 : w1.cell? ⟨w.heap.size, 5, none⟩ = some (.int .i64 i.csr) := (by rw [cell_of_row _ _ _ _ _ _ HIR.out]; rfl); have d6 : w1.cell? ⟨w.heap.size, 6, none⟩ = some (.bool false) := (by rw [cell_of_row _ _ _ _ _ _ HIR.out]; rfl); have d7 : w1.cell? ⟨w.heap.size, 7, none⟩ = some (.bool false) := (by rw [cell_of_row _ _ _ _ _ _ HIR.out]; rfl); clear hb1)
    | (go_at_call 61; (with_reducible refine (Hrd.out _).mono ?_); rintro e w3 ⟨rfl, rfl⟩)
    | (go_at_call 61; (with_reducible refine (Ha.out _).mono ?_); rintro e w3 ⟨rfl, rfl⟩)
    | (go_at_call 61; (with_reducible refine (Hb.out _).mono ?_); rintro e w3 ⟨rfl, rfl⟩)
    | (go_at_call 61; (with_reducible refine (Hcsr.out _).mono ?_); rintro e w3 ⟨rfl, rfl⟩)
    | (go_at_call 61; (with_reducible refine (Hord.out _).mono ?_); rintro e w3 ⟨rfl, rfl⟩)
    | (go_at_call 50; (with_reducible refine (refForm_5 _).mono ?_); rintro e w3 ⟨rfl, rfl⟩))
  have HB2 : Hid (Below w.heap.size w (w1.alloc (.cells #[.string nm, .int .u32 mk, .int .u32 mt, .int .u8 72] 59))) := Lib.hid (HB1.out.alloc HB1.out.size _)
  have q3 : (w1.alloc (.cells #[.string nm, .int .u32 mk, .int .u32 mt, .int .u8 72] 59)).cell? ⟨w1.heap.size, 3, none⟩ = some (.int .u8 72) := World.cell?_alloc_at _ _ _ _ rfl
  have q4 : (w1.alloc (.cells #[.string nm, .int .u32 mk, .int .u32 mt, .int .u8 72] 59)).cell? ⟨w.heap.size, 4, none⟩ = some (.int .i64 i.imm) := by go_simp
  have s1 : w1.heap.size < (w1.alloc (.cells #[.string nm, .int .u32 mk, .int .u32 mt, .int .u8 72] 59)).heap.size := by rw [World.size_alloc]; omega
  have s2 : w.heap.size < (w1.alloc (.cells #[.string nm, .int .u32 mk, .int .u32 mt, .int .u8 72] 59)).heap.size := by rw [World.size_alloc]; omega
  clear d0 d1 d2 d3 d4 d5 d6 d7 HIR HB1
  generalize hw2 : (w1.alloc (.cells #[.string nm, .int .u32 mk, .int .u32 mt, .int .u8 72] 59)) = w2 at *
  clear hw2
  generalize w1.heap.size = m at *
  generalize hn : w.heap.size = n at *
  have HNN := Lib.hid hn
  clear hn
  go_region_held3 (fun w' => w'.cell? ⟨m, 3, none⟩ = some (.int .u8 72) ∧ w'.cell? ⟨n, 4, none⟩ = some (.int .i64 i.imm)) (go_keep)
    (first
      | (go_at_call 50; refine (refForm_5 _).mono ?_; rintro e w3 ⟨rfl, rfl⟩)
      | (go_at_call 49; refine (HFI.out _).mono ?_; rintro e w4 ⟨rfl, hb4⟩; have g3 := (hb4.cell (p := ⟨m, 3, none⟩) s1).trans q3; have g4 := (hb4.cell (p := ⟨n, 4, none⟩) s2).trans q4; have HB4 := Lib.hid (HB2.out.trans (((Below.refl _ _).drew.trans hb4).mono (Nat.le_of_lt s2))); clear hb4))
  go_wp2
  go_ret
  exact ⟨rfl, by rw [HNN.out]; exact HB4.out⟩

set_option maxHeartbeats 2000000 in
theorem right_6_b (op : Nat) (h1 : 1 ≤ op) (h2 : op ≤ 113) (hk : frmT op = 6) (i : Ins) (hop : i.op = op) (rdl : ¬ i.rd < 0) (rdh : ¬ 31 < i.rd) (al : ¬ i.a < 0) (ah : ¬ 31 < i.a) (bl : ¬ i.b < 0) (bh : ¬ 31 < i.b) (csrl : ¬ i.csr < 0) (csrh : ¬ 4095 < i.csr) (zb : (i.b != 0) = true) (w : World) :
    Calls Tryz.prog 30 #[.agg #[.int .i64 i.op, .int .i64 i.rd, .int .i64 i.a, .int .i64 i.b, .int .i64 i.imm, .int .i64 i.csr, .bool i.aq, .bool i.rl]] w fun e w' => e = .returned (.bool (false)) ∧ Below w.heap.size w w' := by
  have HR : Hid (∀ w, Calls Tryz.prog 31 #[.int .i64 i.op] w fun e w' => e = .returned (.agg #[.string (nameT op), .int .u32 (mskT op), .int .u32 (matT op), .int .u8 87]) ∧ Below w.heap.size w w') := Lib.hid fun w => by rw [hop]; have h := refRow_any op h1 h2 w; rw [hk] at h; exact h
  have Hrd : Hid (∀ w, Calls Tryz.prog 61 #[.int .u8 87, .string ⟨#[85, 74, 73, 72, 87, 82, 76, 65, 67, 90, 86]⟩] w fun e w' => e = .returned (.bool true) ∧ w = w') := Lib.hid fun w => has_rd 6 (by omega) w
  have Ha : Hid (∀ w, Calls Tryz.prog 61 #[.int .u8 87, .string ⟨#[73, 72, 87, 66, 83, 70, 82, 76, 65, 67, 86]⟩] w fun e w' => e = .returned (.bool true) ∧ w = w') := Lib.hid fun w => has_a 6 (by omega) w
  have Hb : Hid (∀ w, Calls Tryz.prog 61 #[.int .u8 87, .string ⟨#[66, 83, 70, 82, 65]⟩] w fun e w' => e = .returned (.bool false) ∧ w = w') := Lib.hid fun w => has_b 6 (by omega) w
  have Hcsr : Hid (∀ w, Calls Tryz.prog 61 #[.int .u8 87, .string ⟨#[67, 90]⟩] w fun e w' => e = .returned (.bool false) ∧ w = w') := Lib.hid fun w => has_csr 6 (by omega) w
  have Hord : Hid (∀ w, Calls Tryz.prog 61 #[.int .u8 87, .string ⟨#[76, 65]⟩] w fun e w' => e = .returned (.bool false) ∧ w = w') := Lib.hid fun w => has_ord 6 (by omega) w
  have o1 : ¬ i.op < 1 := by omega
  have o2 : ¬ 113 < i.op := by omega
  clear h1 h2 hop hk
  generalize nameT op = nm at *
  generalize (mskT op : Int) = mk at *
  generalize (matT op : Int) = mt at *
  go_enter Tryz.func30, Tryz.ntmps30
  go_wp2_with (first
    | (go_at_call 31; (with_reducible refine (HR.out _).mono ?_); rintro e1 w1 ⟨rfl, hb1⟩; have HB1 : Hid (Below w.heap.size w w1) := Lib.hid (((Below.refl _ _).alloc (Nat.le_refl _) _).trans (hb1.mono (by simp))); have hs1 : w.heap.size < w1.heap.size := (by have := hb1.size; simp at this; omega); have HIR : Hid (w1.heap[w.heap.size]? = some (.cells #[.int .i64 i.op, .int .i64 i.rd, .int .i64 i.a, .int .i64 i.b, .int .i64 i.imm, .int .i64 i.csr, .bool i.aq, .bool i.rl] 23 (0, 0))) := Lib.hid ((hb1.block _ (by simp)).trans (heap_alloc_new w _)); have d0 : w1.cell? ⟨w.heap.size, 0, none⟩ = some (.int .i64 i.op) := (by rw [cell_of_row _ _ _ _ _ _ HIR.out]; rfl); have d1 : w1.cell? ⟨w.heap.size, 1, none⟩ = some (.int .i64 i.rd) := (by rw [cell_of_row _ _ _ _ _ _ HIR.out]; rfl); have d2 : w1.cell? ⟨w.heap.size, 2, none⟩ = some (.int .i64 i.a) := (by rw [cell_of_row _ _ _ _ _ _ HIR.out]; rfl); have d3 : w1.cell? ⟨w.heap.size, 3, none⟩ = some (.int .i64 i.b) := (by rw [cell_of_row _ _ _ _ _ _ HIR.out]; rfl); have d4 : w1.cell? ⟨w.heap.size, 4, none⟩ = some (.int .i64 i.imm) := (by rw [cell_of_row _ _ _ _ _ _ HIR.out]; rfl); have d5 : w1.cell? ⟨w.heap.size, 5, none⟩ = some (.int .i64 i.csr) := (by rw [cell_of_row _ _ _ _ _ _ HIR.out]; rfl); have d6 : w1.cell? ⟨w.heap.size, 6, none⟩ = some (.bool i.aq) := (by rw [cell_of_row _ _ _ _ _ _ HIR.out]; rfl); have d7 : w1.cell? ⟨w.heap.size, 7, none⟩ = some (.bool i.rl) := (by rw [cell_of_row _ _ _ _ _ _ HIR.out]; rfl); clear hb1)
    | (go_at_call 61; (with_reducible refine (Hrd.out _).mono ?_); rintro e w3 ⟨rfl, rfl⟩)
    | (go_at_call 61; (with_reducible refine (Ha.out _).mono ?_); rintro e w3 ⟨rfl, rfl⟩)
    | (go_at_call 61; (with_reducible refine (Hb.out _).mono ?_); rintro e w3 ⟨rfl, rfl⟩)
    | (go_at_call 61; (with_reducible refine (Hcsr.out _).mono ?_); rintro e w3 ⟨rfl, rfl⟩)
    | (go_at_call 61; (with_reducible refine (Hord.out _).mono ?_); rintro e w3 ⟨rfl, rfl⟩)
    | (go_at_call 50; (with_reducible refine (refForm_6 _).mono ?_); rintro e w3 ⟨rfl, rfl⟩))
  go_ret
  exact ⟨rfl, HB1.out.alloc HB1.out.size _⟩

set_option maxHeartbeats 2000000 in
theorem right_6_csr (op : Nat) (h1 : 1 ≤ op) (h2 : op ≤ 113) (hk : frmT op = 6) (i : Ins) (hop : i.op = op) (rdl : ¬ i.rd < 0) (rdh : ¬ 31 < i.rd) (al : ¬ i.a < 0) (ah : ¬ 31 < i.a) (bl : ¬ i.b < 0) (bh : ¬ 31 < i.b) (csrl : ¬ i.csr < 0) (csrh : ¬ 4095 < i.csr) (zb : (i.b != 0) = false) (zcsr : (i.csr != 0) = true) (w : World) :
    Calls Tryz.prog 30 #[.agg #[.int .i64 i.op, .int .i64 i.rd, .int .i64 i.a, .int .i64 i.b, .int .i64 i.imm, .int .i64 i.csr, .bool i.aq, .bool i.rl]] w fun e w' => e = .returned (.bool (false)) ∧ Below w.heap.size w w' := by
  have HR : Hid (∀ w, Calls Tryz.prog 31 #[.int .i64 i.op] w fun e w' => e = .returned (.agg #[.string (nameT op), .int .u32 (mskT op), .int .u32 (matT op), .int .u8 87]) ∧ Below w.heap.size w w') := Lib.hid fun w => by rw [hop]; have h := refRow_any op h1 h2 w; rw [hk] at h; exact h
  have Hrd : Hid (∀ w, Calls Tryz.prog 61 #[.int .u8 87, .string ⟨#[85, 74, 73, 72, 87, 82, 76, 65, 67, 90, 86]⟩] w fun e w' => e = .returned (.bool true) ∧ w = w') := Lib.hid fun w => has_rd 6 (by omega) w
  have Ha : Hid (∀ w, Calls Tryz.prog 61 #[.int .u8 87, .string ⟨#[73, 72, 87, 66, 83, 70, 82, 76, 65, 67, 86]⟩] w fun e w' => e = .returned (.bool true) ∧ w = w') := Lib.hid fun w => has_a 6 (by omega) w
  have Hb : Hid (∀ w, Calls Tryz.prog 61 #[.int .u8 87, .string ⟨#[66, 83, 70, 82, 65]⟩] w fun e w' => e = .returned (.bool false) ∧ w = w') := Lib.hid fun w => has_b 6 (by omega) w
  have Hcsr : Hid (∀ w, Calls Tryz.prog 61 #[.int .u8 87, .string ⟨#[67, 90]⟩] w fun e w' => e = .returned (.bool false) ∧ w = w') := Lib.hid fun w => has_csr 6 (by omega) w
  have Hord : Hid (∀ w, Calls Tryz.prog 61 #[.int .u8 87, .string ⟨#[76, 65]⟩] w fun e w' => e = .returned (.bool false) ∧ w = w') := Lib.hid fun w => has_ord 6 (by omega) w
  have o1 : ¬ i.op < 1 := by omega
  have o2 : ¬ 113 < i.op := by omega
  clear h1 h2 hop hk
  generalize nameT op = nm at *
  generalize (mskT op : Int) = mk at *
  generalize (matT op : Int) = mt at *
  go_enter Tryz.func30, Tryz.ntmps30
  go_wp2_with (first
    | (go_at_call 31; (with_reducible refine (HR.out _).mono ?_); rintro e1 w1 ⟨rfl, hb1⟩; have HB1 : Hid (Below w.heap.size w w1) := Lib.hid (((Below.refl _ _).alloc (Nat.le_refl _) _).trans (hb1.mono (by simp))); have hs1 : w.heap.size < w1.heap.size := (by have := hb1.size; simp at this; omega); have HIR : Hid (w1.heap[w.heap.size]? = some (.cells #[.int .i64 i.op, .int .i64 i.rd, .int .i64 i.a, .int .i64 i.b, .int .i64 i.imm, .int .i64 i.csr, .bool i.aq, .bool i.rl] 23 (0, 0))) := Lib.hid ((hb1.block _ (by simp)).trans (heap_alloc_new w _)); have d0 : w1.cell? ⟨w.heap.size, 0, none⟩ = some (.int .i64 i.op) := (by rw [cell_of_row _ _ _ _ _ _ HIR.out]; rfl); have d1 : w1.cell? ⟨w.heap.size, 1, none⟩ = some (.int .i64 i.rd) := (by rw [cell_of_row _ _ _ _ _ _ HIR.out]; rfl); have d2 : w1.cell? ⟨w.heap.size, 2, none⟩ = some (.int .i64 i.a) := (by rw [cell_of_row _ _ _ _ _ _ HIR.out]; rfl); have d3 : w1.cell? ⟨w.heap.size, 3, none⟩ = some (.int .i64 i.b) := (by rw [cell_of_row _ _ _ _ _ _ HIR.out]; rfl); have d4 : w1.cell? ⟨w.heap.size, 4, none⟩ = some (.int .i64 i.imm) := (by rw [cell_of_row _ _ _ _ _ _ HIR.out]; rfl); have d5 : w1.cell? ⟨w.heap.size, 5, none⟩ = some (.int .i64 i.csr) := (by rw [cell_of_row _ _ _ _ _ _ HIR.out]; rfl); have d6 : w1.cell? ⟨w.heap.size, 6, none⟩ = some (.bool i.aq) := (by rw [cell_of_row _ _ _ _ _ _ HIR.out]; rfl); have d7 : w1.cell? ⟨w.heap.size, 7, none⟩ = some (.bool i.rl) := (by rw [cell_of_row _ _ _ _ _ _ HIR.out]; rfl); clear hb1)
    | (go_at_call 61; (with_reducible refine (Hrd.out _).mono ?_); rintro e w3 ⟨rfl, rfl⟩)
    | (go_at_call 61; (with_reducible refine (Ha.out _).mono ?_); rintro e w3 ⟨rfl, rfl⟩)
    | (go_at_call 61; (with_reducible refine (Hb.out _).mono ?_); rintro e w3 ⟨rfl, rfl⟩)
    | (go_at_call 61; (with_reducible refine (Hcsr.out _).mono ?_); rintro e w3 ⟨rfl, rfl⟩)
    | (go_at_call 61; (with_reducible refine (Hord.out _).mono ?_); rintro e w3 ⟨rfl, rfl⟩)
    | (go_at_call 50; (with_reducible refine (refForm_6 _).mono ?_); rintro e w3 ⟨rfl, rfl⟩))
  go_ret
  exact ⟨rfl, HB1.out.alloc HB1.out.size _⟩

set_option maxHeartbeats 2000000 in
theorem right_6_aq (op : Nat) (h1 : 1 ≤ op) (h2 : op ≤ 113) (hk : frmT op = 6) (i : Ins) (hop : i.op = op) (rdl : ¬ i.rd < 0) (rdh : ¬ 31 < i.rd) (al : ¬ i.a < 0) (ah : ¬ 31 < i.a) (bl : ¬ i.b < 0) (bh : ¬ 31 < i.b) (csrl : ¬ i.csr < 0) (csrh : ¬ 4095 < i.csr) (zb : (i.b != 0) = false) (zcsr : (i.csr != 0) = false) (zaq : i.aq = true) (w : World) :
    Calls Tryz.prog 30 #[.agg #[.int .i64 i.op, .int .i64 i.rd, .int .i64 i.a, .int .i64 i.b, .int .i64 i.imm, .int .i64 i.csr, .bool i.aq, .bool i.rl]] w fun e w' => e = .returned (.bool (false)) ∧ Below w.heap.size w w' := by
  have HR : Hid (∀ w, Calls Tryz.prog 31 #[.int .i64 i.op] w fun e w' => e = .returned (.agg #[.string (nameT op), .int .u32 (mskT op), .int .u32 (matT op), .int .u8 87]) ∧ Below w.heap.size w w') := Lib.hid fun w => by rw [hop]; have h := refRow_any op h1 h2 w; rw [hk] at h; exact h
  have Hrd : Hid (∀ w, Calls Tryz.prog 61 #[.int .u8 87, .string ⟨#[85, 74, 73, 72, 87, 82, 76, 65, 67, 90, 86]⟩] w fun e w' => e = .returned (.bool true) ∧ w = w') := Lib.hid fun w => has_rd 6 (by omega) w
  have Ha : Hid (∀ w, Calls Tryz.prog 61 #[.int .u8 87, .string ⟨#[73, 72, 87, 66, 83, 70, 82, 76, 65, 67, 86]⟩] w fun e w' => e = .returned (.bool true) ∧ w = w') := Lib.hid fun w => has_a 6 (by omega) w
  have Hb : Hid (∀ w, Calls Tryz.prog 61 #[.int .u8 87, .string ⟨#[66, 83, 70, 82, 65]⟩] w fun e w' => e = .returned (.bool false) ∧ w = w') := Lib.hid fun w => has_b 6 (by omega) w
  have Hcsr : Hid (∀ w, Calls Tryz.prog 61 #[.int .u8 87, .string ⟨#[67, 90]⟩] w fun e w' => e = .returned (.bool false) ∧ w = w') := Lib.hid fun w => has_csr 6 (by omega) w
  have Hord : Hid (∀ w, Calls Tryz.prog 61 #[.int .u8 87, .string ⟨#[76, 65]⟩] w fun e w' => e = .returned (.bool false) ∧ w = w') := Lib.hid fun w => has_ord 6 (by omega) w
  have o1 : ¬ i.op < 1 := by omega
  have o2 : ¬ 113 < i.op := by omega
  clear h1 h2 hop hk
  generalize nameT op = nm at *
  generalize (mskT op : Int) = mk at *
  generalize (matT op : Int) = mt at *
  go_enter Tryz.func30, Tryz.ntmps30
  go_wp2_with (first
    | (go_at_call 31; (with_reducible refine (HR.out _).mono ?_); rintro e1 w1 ⟨rfl, hb1⟩; have HB1 : Hid (Below w.heap.size w w1) := Lib.hid (((Below.refl _ _).alloc (Nat.le_refl _) _).trans (hb1.mono (by simp))); have hs1 : w.heap.size < w1.heap.size := (by have := hb1.size; simp at this; omega); have HIR : Hid (w1.heap[w.heap.size]? = some (.cells #[.int .i64 i.op, .int .i64 i.rd, .int .i64 i.a, .int .i64 i.b, .int .i64 i.imm, .int .i64 i.csr, .bool true, .bool i.rl] 23 (0, 0))) := Lib.hid ((hb1.block _ (by simp)).trans (heap_alloc_new w _)); have d0 : w1.cell? ⟨w.heap.size, 0, none⟩ = some (.int .i64 i.op) := (by rw [cell_of_row _ _ _ _ _ _ HIR.out]; rfl); have d1 : w1.cell? ⟨w.heap.size, 1, none⟩ = some (.int .i64 i.rd) := (by rw [cell_of_row _ _ _ _ _ _ HIR.out]; rfl); have d2 : w1.cell? ⟨w.heap.size, 2, none⟩ = some (.int .i64 i.a) := (by rw [cell_of_row _ _ _ _ _ _ HIR.out]; rfl); have d3 : w1.cell? ⟨w.heap.size, 3, none⟩ = some (.int .i64 i.b) := (by rw [cell_of_row _ _ _ _ _ _ HIR.out]; rfl); have d4 : w1.cell? ⟨w.heap.size, 4, none⟩ = some (.int .i64 i.imm) := (by rw [cell_of_row _ _ _ _ _ _ HIR.out]; rfl); have d5 : w1.cell? ⟨w.heap.size, 5, none⟩ = some (.int .i64 i.csr) := (by rw [cell_of_row _ _ _ _ _ _ HIR.out]; rfl); have d6 : w1.cell? ⟨w.heap.size, 6, none⟩ = some (.bool true) := (by rw [cell_of_row _ _ _ _ _ _ HIR.out]; rfl); have d7 : w1.cell? ⟨w.heap.size, 7, none⟩ = some (.bool i.rl) := (by rw [cell_of_row _ _ _ _ _ _ HIR.out]; rfl); clear hb1)
    | (go_at_call 61; (with_reducible refine (Hrd.out _).mono ?_); rintro e w3 ⟨rfl, rfl⟩)
    | (go_at_call 61; (with_reducible refine (Ha.out _).mono ?_); rintro e w3 ⟨rfl, rfl⟩)
    | (go_at_call 61; (with_reducible refine (Hb.out _).mono ?_); rintro e w3 ⟨rfl, rfl⟩)
    | (go_at_call 61; (with_reducible refine (Hcsr.out _).mono ?_); rintro e w3 ⟨rfl, rfl⟩)
    | (go_at_call 61; (with_reducible refine (Hord.out _).mono ?_); rintro e w3 ⟨rfl, rfl⟩)
    | (go_at_call 50; (with_reducible refine (refForm_6 _).mono ?_); rintro e w3 ⟨rfl, rfl⟩))
  go_ret
  exact ⟨rfl, HB1.out.alloc HB1.out.size _⟩

set_option maxHeartbeats 2000000 in
theorem right_6_rl (op : Nat) (h1 : 1 ≤ op) (h2 : op ≤ 113) (hk : frmT op = 6) (i : Ins) (hop : i.op = op) (rdl : ¬ i.rd < 0) (rdh : ¬ 31 < i.rd) (al : ¬ i.a < 0) (ah : ¬ 31 < i.a) (bl : ¬ i.b < 0) (bh : ¬ 31 < i.b) (csrl : ¬ i.csr < 0) (csrh : ¬ 4095 < i.csr) (zb : (i.b != 0) = false) (zcsr : (i.csr != 0) = false) (zaq : i.aq = false) (zrl : i.rl = true) (w : World) :
    Calls Tryz.prog 30 #[.agg #[.int .i64 i.op, .int .i64 i.rd, .int .i64 i.a, .int .i64 i.b, .int .i64 i.imm, .int .i64 i.csr, .bool i.aq, .bool i.rl]] w fun e w' => e = .returned (.bool (false)) ∧ Below w.heap.size w w' := by
  have HR : Hid (∀ w, Calls Tryz.prog 31 #[.int .i64 i.op] w fun e w' => e = .returned (.agg #[.string (nameT op), .int .u32 (mskT op), .int .u32 (matT op), .int .u8 87]) ∧ Below w.heap.size w w') := Lib.hid fun w => by rw [hop]; have h := refRow_any op h1 h2 w; rw [hk] at h; exact h
  have Hrd : Hid (∀ w, Calls Tryz.prog 61 #[.int .u8 87, .string ⟨#[85, 74, 73, 72, 87, 82, 76, 65, 67, 90, 86]⟩] w fun e w' => e = .returned (.bool true) ∧ w = w') := Lib.hid fun w => has_rd 6 (by omega) w
  have Ha : Hid (∀ w, Calls Tryz.prog 61 #[.int .u8 87, .string ⟨#[73, 72, 87, 66, 83, 70, 82, 76, 65, 67, 86]⟩] w fun e w' => e = .returned (.bool true) ∧ w = w') := Lib.hid fun w => has_a 6 (by omega) w
  have Hb : Hid (∀ w, Calls Tryz.prog 61 #[.int .u8 87, .string ⟨#[66, 83, 70, 82, 65]⟩] w fun e w' => e = .returned (.bool false) ∧ w = w') := Lib.hid fun w => has_b 6 (by omega) w
  have Hcsr : Hid (∀ w, Calls Tryz.prog 61 #[.int .u8 87, .string ⟨#[67, 90]⟩] w fun e w' => e = .returned (.bool false) ∧ w = w') := Lib.hid fun w => has_csr 6 (by omega) w
  have Hord : Hid (∀ w, Calls Tryz.prog 61 #[.int .u8 87, .string ⟨#[76, 65]⟩] w fun e w' => e = .returned (.bool false) ∧ w = w') := Lib.hid fun w => has_ord 6 (by omega) w
  have o1 : ¬ i.op < 1 := by omega
  have o2 : ¬ 113 < i.op := by omega
  clear h1 h2 hop hk
  generalize nameT op = nm at *
  generalize (mskT op : Int) = mk at *
  generalize (matT op : Int) = mt at *
  go_enter Tryz.func30, Tryz.ntmps30
  go_wp2_with (first
    | (go_at_call 31; (with_reducible refine (HR.out _).mono ?_); rintro e1 w1 ⟨rfl, hb1⟩; have HB1 : Hid (Below w.heap.size w w1) := Lib.hid (((Below.refl _ _).alloc (Nat.le_refl _) _).trans (hb1.mono (by simp))); have hs1 : w.heap.size < w1.heap.size := (by have := hb1.size; simp at this; omega); have HIR : Hid (w1.heap[w.heap.size]? = some (.cells #[.int .i64 i.op, .int .i64 i.rd, .int .i64 i.a, .int .i64 i.b, .int .i64 i.imm, .int .i64 i.csr, .bool false, .bool true] 23 (0, 0))) := Lib.hid ((hb1.block _ (by simp)).trans (heap_alloc_new w _)); have d0 : w1.cell? ⟨w.heap.size, 0, none⟩ = some (.int .i64 i.op) := (by rw [cell_of_row _ _ _ _ _ _ HIR.out]; rfl); have d1 : w1.cell? ⟨w.heap.size, 1, none⟩ = some (.int .i64 i.rd) := (by rw [cell_of_row _ _ _ _ _ _ HIR.out]; rfl); have d2 : w1.cell? ⟨w.heap.size, 2, none⟩ = some (.int .i64 i.a) := (by rw [cell_of_row _ _ _ _ _ _ HIR.out]; rfl); have d3 : w1.cell? ⟨w.heap.size, 3, none⟩ = some (.int .i64 i.b) := (by rw [cell_of_row _ _ _ _ _ _ HIR.out]; rfl); have d4 : w1.cell? ⟨w.heap.size, 4, none⟩ = some (.int .i64 i.imm) := (by rw [cell_of_row _ _ _ _ _ _ HIR.out]; rfl); have d5 : w1.cell? ⟨w.heap.size, 5, none⟩ = some (.int .i64 i.csr) := (by rw [cell_of_row _ _ _ _ _ _ HIR.out]; rfl); have d6 : w1.cell? ⟨w.heap.size, 6, none⟩ = some (.bool false) := (by rw [cell_of_row _ _ _ _ _ _ HIR.out]; rfl); have d7 : w1.cell? ⟨w.heap.size, 7, none⟩ = some (.bool true) := (by rw [cell_of_row _ _ _ _ _ _ HIR.out]; rfl); clear hb1)
    | (go_at_call 61; (with_reducible refine (Hrd.out _).mono ?_); rintro e w3 ⟨rfl, rfl⟩)
    | (go_at_call 61; (with_reducible refine (Ha.out _).mono ?_); rintro e w3 ⟨rfl, rfl⟩)
    | (go_at_call 61; (with_reducible refine (Hb.out _).mono ?_); rintro e w3 ⟨rfl, rfl⟩)
    | (go_at_call 61; (with_reducible refine (Hcsr.out _).mono ?_); rintro e w3 ⟨rfl, rfl⟩)
    | (go_at_call 61; (with_reducible refine (Hord.out _).mono ?_); rintro e w3 ⟨rfl, rfl⟩)
    | (go_at_call 50; (with_reducible refine (refForm_6 _).mono ?_); rintro e w3 ⟨rfl, rfl⟩))
  go_ret
  exact ⟨rfl, HB1.out.alloc HB1.out.size _⟩

set_option maxHeartbeats 2000000 in
theorem right_6_end (op : Nat) (h1 : 1 ≤ op) (h2 : op ≤ 113) (hk : frmT op = 6) (i : Ins) (hop : i.op = op) (rdl : ¬ i.rd < 0) (rdh : ¬ 31 < i.rd) (al : ¬ i.a < 0) (ah : ¬ 31 < i.a) (bl : ¬ i.b < 0) (bh : ¬ 31 < i.b) (csrl : ¬ i.csr < 0) (csrh : ¬ 4095 < i.csr) (zb : (i.b != 0) = false) (zcsr : (i.csr != 0) = false) (zaq : i.aq = false) (zrl : i.rl = false) (w : World) :
    Calls Tryz.prog 30 #[.agg #[.int .i64 i.op, .int .i64 i.rd, .int .i64 i.a, .int .i64 i.b, .int .i64 i.imm, .int .i64 i.csr, .bool i.aq, .bool i.rl]] w fun e w' => e = .returned (.bool ((formL 7).number ((formL 7).word i.imm) == i.imm)) ∧ Below w.heap.size w w' := by
  have HR : Hid (∀ w, Calls Tryz.prog 31 #[.int .i64 i.op] w fun e w' => e = .returned (.agg #[.string (nameT op), .int .u32 (mskT op), .int .u32 (matT op), .int .u8 87]) ∧ Below w.heap.size w w') := Lib.hid fun w => by rw [hop]; have h := refRow_any op h1 h2 w; rw [hk] at h; exact h
  have Hrd : Hid (∀ w, Calls Tryz.prog 61 #[.int .u8 87, .string ⟨#[85, 74, 73, 72, 87, 82, 76, 65, 67, 90, 86]⟩] w fun e w' => e = .returned (.bool true) ∧ w = w') := Lib.hid fun w => has_rd 6 (by omega) w
  have Ha : Hid (∀ w, Calls Tryz.prog 61 #[.int .u8 87, .string ⟨#[73, 72, 87, 66, 83, 70, 82, 76, 65, 67, 86]⟩] w fun e w' => e = .returned (.bool true) ∧ w = w') := Lib.hid fun w => has_a 6 (by omega) w
  have Hb : Hid (∀ w, Calls Tryz.prog 61 #[.int .u8 87, .string ⟨#[66, 83, 70, 82, 65]⟩] w fun e w' => e = .returned (.bool false) ∧ w = w') := Lib.hid fun w => has_b 6 (by omega) w
  have Hcsr : Hid (∀ w, Calls Tryz.prog 61 #[.int .u8 87, .string ⟨#[67, 90]⟩] w fun e w' => e = .returned (.bool false) ∧ w = w') := Lib.hid fun w => has_csr 6 (by omega) w
  have Hord : Hid (∀ w, Calls Tryz.prog 61 #[.int .u8 87, .string ⟨#[76, 65]⟩] w fun e w' => e = .returned (.bool false) ∧ w = w') := Lib.hid fun w => has_ord 6 (by omega) w
  have HFI : Hid (∀ w, Calls Tryz.prog 49 #[.int .i64 7, .int .i64 i.imm] w fun e w' => e = .returned (.bool ((formL 7).number ((formL 7).word i.imm) == i.imm)) ∧ Below w.heap.size w w') := Lib.hid fun w => refFits_form 7 (by omega) i.imm w
  generalize ((formL 7).number ((formL 7).word i.imm) == i.imm) = r at *
  have o1 : ¬ i.op < 1 := by omega
  have o2 : ¬ 113 < i.op := by omega
  clear h1 h2 hop hk
  generalize nameT op = nm at *
  generalize (mskT op : Int) = mk at *
  generalize (matT op : Int) = mt at *
  go_enter Tryz.func30, Tryz.ntmps30
  go_wp2_with (first
    | (go_at_call 31; (with_reducible refine (HR.out _).mono ?_); rintro e1 w1 ⟨rfl, hb1⟩; have HB1 : Hid (Below w.heap.size w w1) := Lib.hid (((Below.refl _ _).alloc (Nat.le_refl _) _).trans (hb1.mono (by simp))); have hs1 : w.heap.size < w1.heap.size := (by have := hb1.size; simp at this; omega); have HIR : Hid (w1.heap[w.heap.size]? = some (.cells #[.int .i64 i.op, .int .i64 i.rd, .int .i64 i.a, .int .i64 i.b, .int .i64 i.imm, .int .i64 i.csr, .bool false, .bool false] 23 (0, 0))) := Lib.hid ((hb1.block _ (by simp)).trans (heap_alloc_new w _)); have d0 : w1.cell? ⟨w.heap.size, 0, none⟩ = some (.int .i64 i.op) := (by rw [cell_of_row _ _ _ _ _ _ HIR.out]; rfl); have d1 : w1.cell? ⟨w.heap.size, 1, none⟩ = some (.int .i64 i.rd) := (by rw [cell_of_row _ _ _ _ _ _ HIR.out]; rfl); have d2 : w1.cell? ⟨w.heap.size, 2, none⟩ = some (.int .i64 i.a) := (by rw [cell_of_row _ _ _ _ _ _ HIR.out]; rfl); have d3 : w1.cell? ⟨w.heap.size, 3, none⟩ = some (.int .i64 i.b) := (by rw [cell_of_row _ _ _ _ _ _ HIR.out]; rfl); have d4 : w1.cell? ⟨w.heap.size, 4, none⟩ = some (.int .i64 i.imm) := (by rw [cell_of_row _ _ _ _ _ _ HIR.out]; rfl); have d5 : w1.cell? ⟨w.heap.size, 5, none⟩ = some (.int .i64 i.csr) := (by rw [cell_of_row _ _ _ _ _ _ HIR.out]; rfl); have d6 : w1.cell? ⟨w.heap.size, 6, none⟩ = some (.bool false) := (by rw [cell_of_row _ _ _ _ _ _ HIR.out]; rfl); have d7 : w1.cell? ⟨w.heap.size, 7, none⟩ = some (.bool false) := (by rw [cell_of_row _ _ _ _ _ _ HIR.out]; rfl); clear hb1)
    | (go_at_call 61; (with_reducible refine (Hrd.out _).mono ?_); rintro e w3 ⟨rfl, rfl⟩)
    | (go_at_call 61; (with_reducible refine (Ha.out _).mono ?_); rintro e w3 ⟨rfl, rfl⟩)
    | (go_at_call 61; (with_reducible refine (Hb.out _).mono ?_); rintro e w3 ⟨rfl, rfl⟩)
    | (go_at_call 61; (with_reducible refine (Hcsr.out _).mono ?_); rintro e w3 ⟨rfl, rfl⟩)
    | (go_at_call 61; (with_reducible refine (Hord.out _).mono ?_); rintro e w3 ⟨rfl, rfl⟩)
    | (go_at_call 50; (with_reducible refine (refForm_6 _).mono ?_); rintro e w3 ⟨rfl, rfl⟩))
  have HB2 : Hid (Below w.heap.size w (w1.alloc (.cells #[.string nm, .int .u32 mk, .int .u32 mt, .int .u8 87] 59))) := Lib.hid (HB1.out.alloc HB1.out.size _)
  have q3 : (w1.alloc (.cells #[.string nm, .int .u32 mk, .int .u32 mt, .int .u8 87] 59)).cell? ⟨w1.heap.size, 3, none⟩ = some (.int .u8 87) := World.cell?_alloc_at _ _ _ _ rfl
  have q4 : (w1.alloc (.cells #[.string nm, .int .u32 mk, .int .u32 mt, .int .u8 87] 59)).cell? ⟨w.heap.size, 4, none⟩ = some (.int .i64 i.imm) := by go_simp
  have s1 : w1.heap.size < (w1.alloc (.cells #[.string nm, .int .u32 mk, .int .u32 mt, .int .u8 87] 59)).heap.size := by rw [World.size_alloc]; omega
  have s2 : w.heap.size < (w1.alloc (.cells #[.string nm, .int .u32 mk, .int .u32 mt, .int .u8 87] 59)).heap.size := by rw [World.size_alloc]; omega
  clear d0 d1 d2 d3 d4 d5 d6 d7 HIR HB1
  generalize hw2 : (w1.alloc (.cells #[.string nm, .int .u32 mk, .int .u32 mt, .int .u8 87] 59)) = w2 at *
  clear hw2
  generalize w1.heap.size = m at *
  generalize hn : w.heap.size = n at *
  have HNN := Lib.hid hn
  clear hn
  go_region_held3 (fun w' => w'.cell? ⟨m, 3, none⟩ = some (.int .u8 87) ∧ w'.cell? ⟨n, 4, none⟩ = some (.int .i64 i.imm)) (go_keep)
    (first
      | (go_at_call 50; refine (refForm_6 _).mono ?_; rintro e w3 ⟨rfl, rfl⟩)
      | (go_at_call 49; refine (HFI.out _).mono ?_; rintro e w4 ⟨rfl, hb4⟩; have g3 := (hb4.cell (p := ⟨m, 3, none⟩) s1).trans q3; have g4 := (hb4.cell (p := ⟨n, 4, none⟩) s2).trans q4; have HB4 := Lib.hid (HB2.out.trans (((Below.refl _ _).drew.trans hb4).mono (Nat.le_of_lt s2))); clear hb4))
  go_wp2
  go_ret
  exact ⟨rfl, by rw [HNN.out]; exact HB4.out⟩

set_option maxHeartbeats 2000000 in
theorem right_7_csr (op : Nat) (h1 : 1 ≤ op) (h2 : op ≤ 113) (hk : frmT op = 7) (i : Ins) (hop : i.op = op) (rdl : ¬ i.rd < 0) (rdh : ¬ 31 < i.rd) (al : ¬ i.a < 0) (ah : ¬ 31 < i.a) (bl : ¬ i.b < 0) (bh : ¬ 31 < i.b) (csrl : ¬ i.csr < 0) (csrh : ¬ 4095 < i.csr) (zcsr : (i.csr != 0) = true) (w : World) :
    Calls Tryz.prog 30 #[.agg #[.int .i64 i.op, .int .i64 i.rd, .int .i64 i.a, .int .i64 i.b, .int .i64 i.imm, .int .i64 i.csr, .bool i.aq, .bool i.rl]] w fun e w' => e = .returned (.bool (false)) ∧ Below w.heap.size w w' := by
  have HR : Hid (∀ w, Calls Tryz.prog 31 #[.int .i64 i.op] w fun e w' => e = .returned (.agg #[.string (nameT op), .int .u32 (mskT op), .int .u32 (matT op), .int .u8 82]) ∧ Below w.heap.size w w') := Lib.hid fun w => by rw [hop]; have h := refRow_any op h1 h2 w; rw [hk] at h; exact h
  have Hrd : Hid (∀ w, Calls Tryz.prog 61 #[.int .u8 82, .string ⟨#[85, 74, 73, 72, 87, 82, 76, 65, 67, 90, 86]⟩] w fun e w' => e = .returned (.bool true) ∧ w = w') := Lib.hid fun w => has_rd 7 (by omega) w
  have Ha : Hid (∀ w, Calls Tryz.prog 61 #[.int .u8 82, .string ⟨#[73, 72, 87, 66, 83, 70, 82, 76, 65, 67, 86]⟩] w fun e w' => e = .returned (.bool true) ∧ w = w') := Lib.hid fun w => has_a 7 (by omega) w
  have Hb : Hid (∀ w, Calls Tryz.prog 61 #[.int .u8 82, .string ⟨#[66, 83, 70, 82, 65]⟩] w fun e w' => e = .returned (.bool true) ∧ w = w') := Lib.hid fun w => has_b 7 (by omega) w
  have Hcsr : Hid (∀ w, Calls Tryz.prog 61 #[.int .u8 82, .string ⟨#[67, 90]⟩] w fun e w' => e = .returned (.bool false) ∧ w = w') := Lib.hid fun w => has_csr 7 (by omega) w
  have Hord : Hid (∀ w, Calls Tryz.prog 61 #[.int .u8 82, .string ⟨#[76, 65]⟩] w fun e w' => e = .returned (.bool false) ∧ w = w') := Lib.hid fun w => has_ord 7 (by omega) w
  have o1 : ¬ i.op < 1 := by omega
  have o2 : ¬ 113 < i.op := by omega
  clear h1 h2 hop hk
  generalize nameT op = nm at *
  generalize (mskT op : Int) = mk at *
  generalize (matT op : Int) = mt at *
  go_enter Tryz.func30, Tryz.ntmps30
  go_wp2_with (first
    | (go_at_call 31; (with_reducible refine (HR.out _).mono ?_); rintro e1 w1 ⟨rfl, hb1⟩; have HB1 : Hid (Below w.heap.size w w1) := Lib.hid (((Below.refl _ _).alloc (Nat.le_refl _) _).trans (hb1.mono (by simp))); have hs1 : w.heap.size < w1.heap.size := (by have := hb1.size; simp at this; omega); have HIR : Hid (w1.heap[w.heap.size]? = some (.cells #[.int .i64 i.op, .int .i64 i.rd, .int .i64 i.a, .int .i64 i.b, .int .i64 i.imm, .int .i64 i.csr, .bool i.aq, .bool i.rl] 23 (0, 0))) := Lib.hid ((hb1.block _ (by simp)).trans (heap_alloc_new w _)); have d0 : w1.cell? ⟨w.heap.size, 0, none⟩ = some (.int .i64 i.op) := (by rw [cell_of_row _ _ _ _ _ _ HIR.out]; rfl); have d1 : w1.cell? ⟨w.heap.size, 1, none⟩ = some (.int .i64 i.rd) := (by rw [cell_of_row _ _ _ _ _ _ HIR.out]; rfl); have d2 : w1.cell? ⟨w.heap.size, 2, none⟩ = some (.int .i64 i.a) := (by rw [cell_of_row _ _ _ _ _ _ HIR.out]; rfl); have d3 : w1.cell? ⟨w.heap.size, 3, none⟩ = some (.int .i64 i.b) := (by rw [cell_of_row _ _ _ _ _ _ HIR.out]; rfl); have d4 : w1.cell? ⟨w.heap.size, 4, none⟩ = some (.int .i64 i.imm) := (by rw [cell_of_row _ _ _ _ _ _ HIR.out]; rfl); have d5 : w1.cell? ⟨w.heap.size, 5, none⟩ = some (.int .i64 i.csr) := (by rw [cell_of_row _ _ _ _ _ _ HIR.out]; rfl); have d6 : w1.cell? ⟨w.heap.size, 6, none⟩ = some (.bool i.aq) := (by rw [cell_of_row _ _ _ _ _ _ HIR.out]; rfl); have d7 : w1.cell? ⟨w.heap.size, 7, none⟩ = some (.bool i.rl) := (by rw [cell_of_row _ _ _ _ _ _ HIR.out]; rfl); clear hb1)
    | (go_at_call 61; (with_reducible refine (Hrd.out _).mono ?_); rintro e w3 ⟨rfl, rfl⟩)
    | (go_at_call 61; (with_reducible refine (Ha.out _).mono ?_); rintro e w3 ⟨rfl, rfl⟩)
    | (go_at_call 61; (with_reducible refine (Hb.out _).mono ?_); rintro e w3 ⟨rfl, rfl⟩)
    | (go_at_call 61; (with_reducible refine (Hcsr.out _).mono ?_); rintro e w3 ⟨rfl, rfl⟩)
    | (go_at_call 61; (with_reducible refine (Hord.out _).mono ?_); rintro e w3 ⟨rfl, rfl⟩)
    | (go_at_call 50; (with_reducible refine (refForm_7 _).mono ?_); rintro e w3 ⟨rfl, rfl⟩))
  go_ret
  exact ⟨rfl, HB1.out.alloc HB1.out.size _⟩

set_option maxHeartbeats 2000000 in
theorem right_7_aq (op : Nat) (h1 : 1 ≤ op) (h2 : op ≤ 113) (hk : frmT op = 7) (i : Ins) (hop : i.op = op) (rdl : ¬ i.rd < 0) (rdh : ¬ 31 < i.rd) (al : ¬ i.a < 0) (ah : ¬ 31 < i.a) (bl : ¬ i.b < 0) (bh : ¬ 31 < i.b) (csrl : ¬ i.csr < 0) (csrh : ¬ 4095 < i.csr) (zcsr : (i.csr != 0) = false) (zaq : i.aq = true) (w : World) :
    Calls Tryz.prog 30 #[.agg #[.int .i64 i.op, .int .i64 i.rd, .int .i64 i.a, .int .i64 i.b, .int .i64 i.imm, .int .i64 i.csr, .bool i.aq, .bool i.rl]] w fun e w' => e = .returned (.bool (false)) ∧ Below w.heap.size w w' := by
  have HR : Hid (∀ w, Calls Tryz.prog 31 #[.int .i64 i.op] w fun e w' => e = .returned (.agg #[.string (nameT op), .int .u32 (mskT op), .int .u32 (matT op), .int .u8 82]) ∧ Below w.heap.size w w') := Lib.hid fun w => by rw [hop]; have h := refRow_any op h1 h2 w; rw [hk] at h; exact h
  have Hrd : Hid (∀ w, Calls Tryz.prog 61 #[.int .u8 82, .string ⟨#[85, 74, 73, 72, 87, 82, 76, 65, 67, 90, 86]⟩] w fun e w' => e = .returned (.bool true) ∧ w = w') := Lib.hid fun w => has_rd 7 (by omega) w
  have Ha : Hid (∀ w, Calls Tryz.prog 61 #[.int .u8 82, .string ⟨#[73, 72, 87, 66, 83, 70, 82, 76, 65, 67, 86]⟩] w fun e w' => e = .returned (.bool true) ∧ w = w') := Lib.hid fun w => has_a 7 (by omega) w
  have Hb : Hid (∀ w, Calls Tryz.prog 61 #[.int .u8 82, .string ⟨#[66, 83, 70, 82, 65]⟩] w fun e w' => e = .returned (.bool true) ∧ w = w') := Lib.hid fun w => has_b 7 (by omega) w
  have Hcsr : Hid (∀ w, Calls Tryz.prog 61 #[.int .u8 82, .string ⟨#[67, 90]⟩] w fun e w' => e = .returned (.bool false) ∧ w = w') := Lib.hid fun w => has_csr 7 (by omega) w
  have Hord : Hid (∀ w, Calls Tryz.prog 61 #[.int .u8 82, .string ⟨#[76, 65]⟩] w fun e w' => e = .returned (.bool false) ∧ w = w') := Lib.hid fun w => has_ord 7 (by omega) w
  have o1 : ¬ i.op < 1 := by omega
  have o2 : ¬ 113 < i.op := by omega
  clear h1 h2 hop hk
  generalize nameT op = nm at *
  generalize (mskT op : Int) = mk at *
  generalize (matT op : Int) = mt at *
  go_enter Tryz.func30, Tryz.ntmps30
  go_wp2_with (first
    | (go_at_call 31; (with_reducible refine (HR.out _).mono ?_); rintro e1 w1 ⟨rfl, hb1⟩; have HB1 : Hid (Below w.heap.size w w1) := Lib.hid (((Below.refl _ _).alloc (Nat.le_refl _) _).trans (hb1.mono (by simp))); have hs1 : w.heap.size < w1.heap.size := (by have := hb1.size; simp at this; omega); have HIR : Hid (w1.heap[w.heap.size]? = some (.cells #[.int .i64 i.op, .int .i64 i.rd, .int .i64 i.a, .int .i64 i.b, .int .i64 i.imm, .int .i64 i.csr, .bool true, .bool i.rl] 23 (0, 0))) := Lib.hid ((hb1.block _ (by simp)).trans (heap_alloc_new w _)); have d0 : w1.cell? ⟨w.heap.size, 0, none⟩ = some (.int .i64 i.op) := (by rw [cell_of_row _ _ _ _ _ _ HIR.out]; rfl); have d1 : w1.cell? ⟨w.heap.size, 1, none⟩ = some (.int .i64 i.rd) := (by rw [cell_of_row _ _ _ _ _ _ HIR.out]; rfl); have d2 : w1.cell? ⟨w.heap.size, 2, none⟩ = some (.int .i64 i.a) := (by rw [cell_of_row _ _ _ _ _ _ HIR.out]; rfl); have d3 : w1.cell? ⟨w.heap.size, 3, none⟩ = some (.int .i64 i.b) := (by rw [cell_of_row _ _ _ _ _ _ HIR.out]; rfl); have d4 : w1.cell? ⟨w.heap.size, 4, none⟩ = some (.int .i64 i.imm) := (by rw [cell_of_row _ _ _ _ _ _ HIR.out]; rfl); have d5 : w1.cell? ⟨w.heap.size, 5, none⟩ = some (.int .i64 i.csr) := (by rw [cell_of_row _ _ _ _ _ _ HIR.out]; rfl); have d6 : w1.cell? ⟨w.heap.size, 6, none⟩ = some (.bool true) := (by rw [cell_of_row _ _ _ _ _ _ HIR.out]; rfl); have d7 : w1.cell? ⟨w.heap.size, 7, none⟩ = some (.bool i.rl) := (by rw [cell_of_row _ _ _ _ _ _ HIR.out]; rfl); clear hb1)
    | (go_at_call 61; (with_reducible refine (Hrd.out _).mono ?_); rintro e w3 ⟨rfl, rfl⟩)
    | (go_at_call 61; (with_reducible refine (Ha.out _).mono ?_); rintro e w3 ⟨rfl, rfl⟩)
    | (go_at_call 61; (with_reducible refine (Hb.out _).mono ?_); rintro e w3 ⟨rfl, rfl⟩)
    | (go_at_call 61; (with_reducible refine (Hcsr.out _).mono ?_); rintro e w3 ⟨rfl, rfl⟩)
    | (go_at_call 61; (with_reducible refine (Hord.out _).mono ?_); rintro e w3 ⟨rfl, rfl⟩)
    | (go_at_call 50; (with_reducible refine (refForm_7 _).mono ?_); rintro e w3 ⟨rfl, rfl⟩))
  go_ret
  exact ⟨rfl, HB1.out.alloc HB1.out.size _⟩

set_option maxHeartbeats 2000000 in
theorem right_7_rl (op : Nat) (h1 : 1 ≤ op) (h2 : op ≤ 113) (hk : frmT op = 7) (i : Ins) (hop : i.op = op) (rdl : ¬ i.rd < 0) (rdh : ¬ 31 < i.rd) (al : ¬ i.a < 0) (ah : ¬ 31 < i.a) (bl : ¬ i.b < 0) (bh : ¬ 31 < i.b) (csrl : ¬ i.csr < 0) (csrh : ¬ 4095 < i.csr) (zcsr : (i.csr != 0) = false) (zaq : i.aq = false) (zrl : i.rl = true) (w : World) :
    Calls Tryz.prog 30 #[.agg #[.int .i64 i.op, .int .i64 i.rd, .int .i64 i.a, .int .i64 i.b, .int .i64 i.imm, .int .i64 i.csr, .bool i.aq, .bool i.rl]] w fun e w' => e = .returned (.bool (false)) ∧ Below w.heap.size w w' := by
  have HR : Hid (∀ w, Calls Tryz.prog 31 #[.int .i64 i.op] w fun e w' => e = .returned (.agg #[.string (nameT op), .int .u32 (mskT op), .int .u32 (matT op), .int .u8 82]) ∧ Below w.heap.size w w') := Lib.hid fun w => by rw [hop]; have h := refRow_any op h1 h2 w; rw [hk] at h; exact h
  have Hrd : Hid (∀ w, Calls Tryz.prog 61 #[.int .u8 82, .string ⟨#[85, 74, 73, 72, 87, 82, 76, 65, 67, 90, 86]⟩] w fun e w' => e = .returned (.bool true) ∧ w = w') := Lib.hid fun w => has_rd 7 (by omega) w
  have Ha : Hid (∀ w, Calls Tryz.prog 61 #[.int .u8 82, .string ⟨#[73, 72, 87, 66, 83, 70, 82, 76, 65, 67, 86]⟩] w fun e w' => e = .returned (.bool true) ∧ w = w') := Lib.hid fun w => has_a 7 (by omega) w
  have Hb : Hid (∀ w, Calls Tryz.prog 61 #[.int .u8 82, .string ⟨#[66, 83, 70, 82, 65]⟩] w fun e w' => e = .returned (.bool true) ∧ w = w') := Lib.hid fun w => has_b 7 (by omega) w
  have Hcsr : Hid (∀ w, Calls Tryz.prog 61 #[.int .u8 82, .string ⟨#[67, 90]⟩] w fun e w' => e = .returned (.bool false) ∧ w = w') := Lib.hid fun w => has_csr 7 (by omega) w
  have Hord : Hid (∀ w, Calls Tryz.prog 61 #[.int .u8 82, .string ⟨#[76, 65]⟩] w fun e w' => e = .returned (.bool false) ∧ w = w') := Lib.hid fun w => has_ord 7 (by omega) w
  have o1 : ¬ i.op < 1 := by omega
  have o2 : ¬ 113 < i.op := by omega
  clear h1 h2 hop hk
  generalize nameT op = nm at *
  generalize (mskT op : Int) = mk at *
  generalize (matT op : Int) = mt at *
  go_enter Tryz.func30, Tryz.ntmps30
  go_wp2_with (first
    | (go_at_call 31; (with_reducible refine (HR.out _).mono ?_); rintro e1 w1 ⟨rfl, hb1⟩; have HB1 : Hid (Below w.heap.size w w1) := Lib.hid (((Below.refl _ _).alloc (Nat.le_refl _) _).trans (hb1.mono (by simp))); have hs1 : w.heap.size < w1.heap.size := (by have := hb1.size; simp at this; omega); have HIR : Hid (w1.heap[w.heap.size]? = some (.cells #[.int .i64 i.op, .int .i64 i.rd, .int .i64 i.a, .int .i64 i.b, .int .i64 i.imm, .int .i64 i.csr, .bool false, .bool true] 23 (0, 0))) := Lib.hid ((hb1.block _ (by simp)).trans (heap_alloc_new w _)); have d0 : w1.cell? ⟨w.heap.size, 0, none⟩ = some (.int .i64 i.op) := (by rw [cell_of_row _ _ _ _ _ _ HIR.out]; rfl); have d1 : w1.cell? ⟨w.heap.size, 1, none⟩ = some (.int .i64 i.rd) := (by rw [cell_of_row _ _ _ _ _ _ HIR.out]; rfl); have d2 : w1.cell? ⟨w.heap.size, 2, none⟩ = some (.int .i64 i.a) := (by rw [cell_of_row _ _ _ _ _ _ HIR.out]; rfl); have d3 : w1.cell? ⟨w.heap.size, 3, none⟩ = some (.int .i64 i.b) := (by rw [cell_of_row _ _ _ _ _ _ HIR.out]; rfl); have d4 : w1.cell? ⟨w.heap.size, 4, none⟩ = some (.int .i64 i.imm) := (by rw [cell_of_row _ _ _ _ _ _ HIR.out]; rfl); have d5 : w1.cell? ⟨w.heap.size, 5, none⟩ = some (.int .i64 i.csr) := (by rw [cell_of_row _ _ _ _ _ _ HIR.out]; rfl); have d6 : w1.cell? ⟨w.heap.size, 6, none⟩ = some (.bool false) := (by rw [cell_of_row _ _ _ _ _ _ HIR.out]; rfl); have d7 : w1.cell? ⟨w.heap.size, 7, none⟩ = some (.bool true) := (by rw [cell_of_row _ _ _ _ _ _ HIR.out]; rfl); clear hb1)
    | (go_at_call 61; (with_reducible refine (Hrd.out _).mono ?_); rintro e w3 ⟨rfl, rfl⟩)
    | (go_at_call 61; (with_reducible refine (Ha.out _).mono ?_); rintro e w3 ⟨rfl, rfl⟩)
    | (go_at_call 61; (with_reducible refine (Hb.out _).mono ?_); rintro e w3 ⟨rfl, rfl⟩)
    | (go_at_call 61; (with_reducible refine (Hcsr.out _).mono ?_); rintro e w3 ⟨rfl, rfl⟩)
    | (go_at_call 61; (with_reducible refine (Hord.out _).mono ?_); rintro e w3 ⟨rfl, rfl⟩)
    | (go_at_call 50; (with_reducible refine (refForm_7 _).mono ?_); rintro e w3 ⟨rfl, rfl⟩))
  go_ret
  exact ⟨rfl, HB1.out.alloc HB1.out.size _⟩

set_option maxHeartbeats 2000000 in
theorem right_7_end (op : Nat) (h1 : 1 ≤ op) (h2 : op ≤ 113) (hk : frmT op = 7) (i : Ins) (hop : i.op = op) (rdl : ¬ i.rd < 0) (rdh : ¬ 31 < i.rd) (al : ¬ i.a < 0) (ah : ¬ 31 < i.a) (bl : ¬ i.b < 0) (bh : ¬ 31 < i.b) (csrl : ¬ i.csr < 0) (csrh : ¬ 4095 < i.csr) (zcsr : (i.csr != 0) = false) (zaq : i.aq = false) (zrl : i.rl = false) (w : World) :
    Calls Tryz.prog 30 #[.agg #[.int .i64 i.op, .int .i64 i.rd, .int .i64 i.a, .int .i64 i.b, .int .i64 i.imm, .int .i64 i.csr, .bool i.aq, .bool i.rl]] w fun e w' => e = .returned (.bool (i.imm == 0)) ∧ Below w.heap.size w w' := by
  have HR : Hid (∀ w, Calls Tryz.prog 31 #[.int .i64 i.op] w fun e w' => e = .returned (.agg #[.string (nameT op), .int .u32 (mskT op), .int .u32 (matT op), .int .u8 82]) ∧ Below w.heap.size w w') := Lib.hid fun w => by rw [hop]; have h := refRow_any op h1 h2 w; rw [hk] at h; exact h
  have Hrd : Hid (∀ w, Calls Tryz.prog 61 #[.int .u8 82, .string ⟨#[85, 74, 73, 72, 87, 82, 76, 65, 67, 90, 86]⟩] w fun e w' => e = .returned (.bool true) ∧ w = w') := Lib.hid fun w => has_rd 7 (by omega) w
  have Ha : Hid (∀ w, Calls Tryz.prog 61 #[.int .u8 82, .string ⟨#[73, 72, 87, 66, 83, 70, 82, 76, 65, 67, 86]⟩] w fun e w' => e = .returned (.bool true) ∧ w = w') := Lib.hid fun w => has_a 7 (by omega) w
  have Hb : Hid (∀ w, Calls Tryz.prog 61 #[.int .u8 82, .string ⟨#[66, 83, 70, 82, 65]⟩] w fun e w' => e = .returned (.bool true) ∧ w = w') := Lib.hid fun w => has_b 7 (by omega) w
  have Hcsr : Hid (∀ w, Calls Tryz.prog 61 #[.int .u8 82, .string ⟨#[67, 90]⟩] w fun e w' => e = .returned (.bool false) ∧ w = w') := Lib.hid fun w => has_csr 7 (by omega) w
  have Hord : Hid (∀ w, Calls Tryz.prog 61 #[.int .u8 82, .string ⟨#[76, 65]⟩] w fun e w' => e = .returned (.bool false) ∧ w = w') := Lib.hid fun w => has_ord 7 (by omega) w
  have o1 : ¬ i.op < 1 := by omega
  have o2 : ¬ 113 < i.op := by omega
  clear h1 h2 hop hk
  generalize nameT op = nm at *
  generalize (mskT op : Int) = mk at *
  generalize (matT op : Int) = mt at *
  go_enter Tryz.func30, Tryz.ntmps30
  go_wp2_with (first
    | (go_at_call 31; (with_reducible refine (HR.out _).mono ?_); rintro e1 w1 ⟨rfl, hb1⟩; have HB1 : Hid (Below w.heap.size w w1) := Lib.hid (((Below.refl _ _).alloc (Nat.le_refl _) _).trans (hb1.mono (by simp))); have hs1 : w.heap.size < w1.heap.size := (by have := hb1.size; simp at this; omega); have HIR : Hid (w1.heap[w.heap.size]? = some (.cells #[.int .i64 i.op, .int .i64 i.rd, .int .i64 i.a, .int .i64 i.b, .int .i64 i.imm, .int .i64 i.csr, .bool false, .bool false] 23 (0, 0))) := Lib.hid ((hb1.block _ (by simp)).trans (heap_alloc_new w _)); have d0 : w1.cell? ⟨w.heap.size, 0, none⟩ = some (.int .i64 i.op) := (by rw [cell_of_row _ _ _ _ _ _ HIR.out]; rfl); have d1 : w1.cell? ⟨w.heap.size, 1, none⟩ = some (.int .i64 i.rd) := (by rw [cell_of_row _ _ _ _ _ _ HIR.out]; rfl); have d2 : w1.cell? ⟨w.heap.size, 2, none⟩ = some (.int .i64 i.a) := (by rw [cell_of_row _ _ _ _ _ _ HIR.out]; rfl); have d3 : w1.cell? ⟨w.heap.size, 3, none⟩ = some (.int .i64 i.b) := (by rw [cell_of_row _ _ _ _ _ _ HIR.out]; rfl); have d4 : w1.cell? ⟨w.heap.size, 4, none⟩ = some (.int .i64 i.imm) := (by rw [cell_of_row _ _ _ _ _ _ HIR.out]; rfl); have d5 : w1.cell? ⟨w.heap.size, 5, none⟩ = some (.int .i64 i.csr) := (by rw [cell_of_row _ _ _ _ _ _ HIR.out]; rfl); have d6 : w1.cell? ⟨w.heap.size, 6, none⟩ = some (.bool false) := (by rw [cell_of_row _ _ _ _ _ _ HIR.out]; rfl); have d7 : w1.cell? ⟨w.heap.size, 7, none⟩ = some (.bool false) := (by rw [cell_of_row _ _ _ _ _ _ HIR.out]; rfl); clear hb1)
    | (go_at_call 61; (with_reducible refine (Hrd.out _).mono ?_); rintro e w3 ⟨rfl, rfl⟩)
    | (go_at_call 61; (with_reducible refine (Ha.out _).mono ?_); rintro e w3 ⟨rfl, rfl⟩)
    | (go_at_call 61; (with_reducible refine (Hb.out _).mono ?_); rintro e w3 ⟨rfl, rfl⟩)
    | (go_at_call 61; (with_reducible refine (Hcsr.out _).mono ?_); rintro e w3 ⟨rfl, rfl⟩)
    | (go_at_call 61; (with_reducible refine (Hord.out _).mono ?_); rintro e w3 ⟨rfl, rfl⟩)
    | (go_at_call 50; (with_reducible refine (refForm_7 _).mono ?_); rintro e w3 ⟨rfl, rfl⟩))
  go_ret
  exact ⟨rfl, HB1.out.alloc HB1.out.size _⟩

set_option maxHeartbeats 2000000 in
theorem right_8_b (op : Nat) (h1 : 1 ≤ op) (h2 : op ≤ 113) (hk : frmT op = 8) (i : Ins) (hop : i.op = op) (rdl : ¬ i.rd < 0) (rdh : ¬ 31 < i.rd) (al : ¬ i.a < 0) (ah : ¬ 31 < i.a) (bl : ¬ i.b < 0) (bh : ¬ 31 < i.b) (csrl : ¬ i.csr < 0) (csrh : ¬ 4095 < i.csr) (zb : (i.b != 0) = true) (w : World) :
    Calls Tryz.prog 30 #[.agg #[.int .i64 i.op, .int .i64 i.rd, .int .i64 i.a, .int .i64 i.b, .int .i64 i.imm, .int .i64 i.csr, .bool i.aq, .bool i.rl]] w fun e w' => e = .returned (.bool (false)) ∧ Below w.heap.size w w' := by
  have HR : Hid (∀ w, Calls Tryz.prog 31 #[.int .i64 i.op] w fun e w' => e = .returned (.agg #[.string (nameT op), .int .u32 (mskT op), .int .u32 (matT op), .int .u8 76]) ∧ Below w.heap.size w w') := Lib.hid fun w => by rw [hop]; have h := refRow_any op h1 h2 w; rw [hk] at h; exact h
  have Hrd : Hid (∀ w, Calls Tryz.prog 61 #[.int .u8 76, .string ⟨#[85, 74, 73, 72, 87, 82, 76, 65, 67, 90, 86]⟩] w fun e w' => e = .returned (.bool true) ∧ w = w') := Lib.hid fun w => has_rd 8 (by omega) w
  have Ha : Hid (∀ w, Calls Tryz.prog 61 #[.int .u8 76, .string ⟨#[73, 72, 87, 66, 83, 70, 82, 76, 65, 67, 86]⟩] w fun e w' => e = .returned (.bool true) ∧ w = w') := Lib.hid fun w => has_a 8 (by omega) w
  have Hb : Hid (∀ w, Calls Tryz.prog 61 #[.int .u8 76, .string ⟨#[66, 83, 70, 82, 65]⟩] w fun e w' => e = .returned (.bool false) ∧ w = w') := Lib.hid fun w => has_b 8 (by omega) w
  have Hcsr : Hid (∀ w, Calls Tryz.prog 61 #[.int .u8 76, .string ⟨#[67, 90]⟩] w fun e w' => e = .returned (.bool false) ∧ w = w') := Lib.hid fun w => has_csr 8 (by omega) w
  have Hord : Hid (∀ w, Calls Tryz.prog 61 #[.int .u8 76, .string ⟨#[76, 65]⟩] w fun e w' => e = .returned (.bool true) ∧ w = w') := Lib.hid fun w => has_ord 8 (by omega) w
  have o1 : ¬ i.op < 1 := by omega
  have o2 : ¬ 113 < i.op := by omega
  clear h1 h2 hop hk
  generalize nameT op = nm at *
  generalize (mskT op : Int) = mk at *
  generalize (matT op : Int) = mt at *
  go_enter Tryz.func30, Tryz.ntmps30
  go_wp2_with (first
    | (go_at_call 31; (with_reducible refine (HR.out _).mono ?_); rintro e1 w1 ⟨rfl, hb1⟩; have HB1 : Hid (Below w.heap.size w w1) := Lib.hid (((Below.refl _ _).alloc (Nat.le_refl _) _).trans (hb1.mono (by simp))); have hs1 : w.heap.size < w1.heap.size := (by have := hb1.size; simp at this; omega); have HIR : Hid (w1.heap[w.heap.size]? = some (.cells #[.int .i64 i.op, .int .i64 i.rd, .int .i64 i.a, .int .i64 i.b, .int .i64 i.imm, .int .i64 i.csr, .bool i.aq, .bool i.rl] 23 (0, 0))) := Lib.hid ((hb1.block _ (by simp)).trans (heap_alloc_new w _)); have d0 : w1.cell? ⟨w.heap.size, 0, none⟩ = some (.int .i64 i.op) := (by rw [cell_of_row _ _ _ _ _ _ HIR.out]; rfl); have d1 : w1.cell? ⟨w.heap.size, 1, none⟩ = some (.int .i64 i.rd) := (by rw [cell_of_row _ _ _ _ _ _ HIR.out]; rfl); have d2 : w1.cell? ⟨w.heap.size, 2, none⟩ = some (.int .i64 i.a) := (by rw [cell_of_row _ _ _ _ _ _ HIR.out]; rfl); have d3 : w1.cell? ⟨w.heap.size, 3, none⟩ = some (.int .i64 i.b) := (by rw [cell_of_row _ _ _ _ _ _ HIR.out]; rfl); have d4 : w1.cell? ⟨w.heap.size, 4, none⟩ = some (.int .i64 i.imm) := (by rw [cell_of_row _ _ _ _ _ _ HIR.out]; rfl); have d5 : w1.cell? ⟨w.heap.size, 5, none⟩ = some (.int .i64 i.csr) := (by rw [cell_of_row _ _ _ _ _ _ HIR.out]; rfl); have d6 : w1.cell? ⟨w.heap.size, 6, none⟩ = some (.bool i.aq) := (by rw [cell_of_row _ _ _ _ _ _ HIR.out]; rfl); have d7 : w1.cell? ⟨w.heap.size, 7, none⟩ = some (.bool i.rl) := (by rw [cell_of_row _ _ _ _ _ _ HIR.out]; rfl); clear hb1)
    | (go_at_call 61; (with_reducible refine (Hrd.out _).mono ?_); rintro e w3 ⟨rfl, rfl⟩)
    | (go_at_call 61; (with_reducible refine (Ha.out _).mono ?_); rintro e w3 ⟨rfl, rfl⟩)
    | (go_at_call 61; (with_reducible refine (Hb.out _).mono ?_); rintro e w3 ⟨rfl, rfl⟩)
    | (go_at_call 61; (with_reducible refine (Hcsr.out _).mono ?_); rintro e w3 ⟨rfl, rfl⟩)
    | (go_at_call 61; (with_reducible refine (Hord.out _).mono ?_); rintro e w3 ⟨rfl, rfl⟩)
    | (go_at_call 50; (with_reducible refine (refForm_8 _).mono ?_); rintro e w3 ⟨rfl, rfl⟩))
  go_ret
  exact ⟨rfl, HB1.out.alloc HB1.out.size _⟩

set_option maxHeartbeats 2000000 in
theorem right_8_csr (op : Nat) (h1 : 1 ≤ op) (h2 : op ≤ 113) (hk : frmT op = 8) (i : Ins) (hop : i.op = op) (rdl : ¬ i.rd < 0) (rdh : ¬ 31 < i.rd) (al : ¬ i.a < 0) (ah : ¬ 31 < i.a) (bl : ¬ i.b < 0) (bh : ¬ 31 < i.b) (csrl : ¬ i.csr < 0) (csrh : ¬ 4095 < i.csr) (zb : (i.b != 0) = false) (zcsr : (i.csr != 0) = true) (w : World) :
    Calls Tryz.prog 30 #[.agg #[.int .i64 i.op, .int .i64 i.rd, .int .i64 i.a, .int .i64 i.b, .int .i64 i.imm, .int .i64 i.csr, .bool i.aq, .bool i.rl]] w fun e w' => e = .returned (.bool (false)) ∧ Below w.heap.size w w' := by
  have HR : Hid (∀ w, Calls Tryz.prog 31 #[.int .i64 i.op] w fun e w' => e = .returned (.agg #[.string (nameT op), .int .u32 (mskT op), .int .u32 (matT op), .int .u8 76]) ∧ Below w.heap.size w w') := Lib.hid fun w => by rw [hop]; have h := refRow_any op h1 h2 w; rw [hk] at h; exact h
  have Hrd : Hid (∀ w, Calls Tryz.prog 61 #[.int .u8 76, .string ⟨#[85, 74, 73, 72, 87, 82, 76, 65, 67, 90, 86]⟩] w fun e w' => e = .returned (.bool true) ∧ w = w') := Lib.hid fun w => has_rd 8 (by omega) w
  have Ha : Hid (∀ w, Calls Tryz.prog 61 #[.int .u8 76, .string ⟨#[73, 72, 87, 66, 83, 70, 82, 76, 65, 67, 86]⟩] w fun e w' => e = .returned (.bool true) ∧ w = w') := Lib.hid fun w => has_a 8 (by omega) w
  have Hb : Hid (∀ w, Calls Tryz.prog 61 #[.int .u8 76, .string ⟨#[66, 83, 70, 82, 65]⟩] w fun e w' => e = .returned (.bool false) ∧ w = w') := Lib.hid fun w => has_b 8 (by omega) w
  have Hcsr : Hid (∀ w, Calls Tryz.prog 61 #[.int .u8 76, .string ⟨#[67, 90]⟩] w fun e w' => e = .returned (.bool false) ∧ w = w') := Lib.hid fun w => has_csr 8 (by omega) w
  have Hord : Hid (∀ w, Calls Tryz.prog 61 #[.int .u8 76, .string ⟨#[76, 65]⟩] w fun e w' => e = .returned (.bool true) ∧ w = w') := Lib.hid fun w => has_ord 8 (by omega) w
  have o1 : ¬ i.op < 1 := by omega
  have o2 : ¬ 113 < i.op := by omega
  clear h1 h2 hop hk
  generalize nameT op = nm at *
  generalize (mskT op : Int) = mk at *
  generalize (matT op : Int) = mt at *
  go_enter Tryz.func30, Tryz.ntmps30
  go_wp2_with (first
    | (go_at_call 31; (with_reducible refine (HR.out _).mono ?_); rintro e1 w1 ⟨rfl, hb1⟩; have HB1 : Hid (Below w.heap.size w w1) := Lib.hid (((Below.refl _ _).alloc (Nat.le_refl _) _).trans (hb1.mono (by simp))); have hs1 : w.heap.size < w1.heap.size := (by have := hb1.size; simp at this; omega); have HIR : Hid (w1.heap[w.heap.size]? = some (.cells #[.int .i64 i.op, .int .i64 i.rd, .int .i64 i.a, .int .i64 i.b, .int .i64 i.imm, .int .i64 i.csr, .bool i.aq, .bool i.rl] 23 (0, 0))) := Lib.hid ((hb1.block _ (by simp)).trans (heap_alloc_new w _)); have d0 : w1.cell? ⟨w.heap.size, 0, none⟩ = some (.int .i64 i.op) := (by rw [cell_of_row _ _ _ _ _ _ HIR.out]; rfl); have d1 : w1.cell? ⟨w.heap.size, 1, none⟩ = some (.int .i64 i.rd) := (by rw [cell_of_row _ _ _ _ _ _ HIR.out]; rfl); have d2 : w1.cell? ⟨w.heap.size, 2, none⟩ = some (.int .i64 i.a) := (by rw [cell_of_row _ _ _ _ _ _ HIR.out]; rfl); have d3 : w1.cell? ⟨w.heap.size, 3, none⟩ = some (.int .i64 i.b) := (by rw [cell_of_row _ _ _ _ _ _ HIR.out]; rfl); have d4 : w1.cell? ⟨w.heap.size, 4, none⟩ = some (.int .i64 i.imm) := (by rw [cell_of_row _ _ _ _ _ _ HIR.out]; rfl); have d5 : w1.cell? ⟨w.heap.size, 5, none⟩ = some (.int .i64 i.csr) := (by rw [cell_of_row _ _ _ _ _ _ HIR.out]; rfl); have d6 : w1.cell? ⟨w.heap.size, 6, none⟩ = some (.bool i.aq) := (by rw [cell_of_row _ _ _ _ _ _ HIR.out]; rfl); have d7 : w1.cell? ⟨w.heap.size, 7, none⟩ = some (.bool i.rl) := (by rw [cell_of_row _ _ _ _ _ _ HIR.out]; rfl); clear hb1)
    | (go_at_call 61; (with_reducible refine (Hrd.out _).mono ?_); rintro e w3 ⟨rfl, rfl⟩)
    | (go_at_call 61; (with_reducible refine (Ha.out _).mono ?_); rintro e w3 ⟨rfl, rfl⟩)
    | (go_at_call 61; (with_reducible refine (Hb.out _).mono ?_); rintro e w3 ⟨rfl, rfl⟩)
    | (go_at_call 61; (with_reducible refine (Hcsr.out _).mono ?_); rintro e w3 ⟨rfl, rfl⟩)
    | (go_at_call 61; (with_reducible refine (Hord.out _).mono ?_); rintro e w3 ⟨rfl, rfl⟩)
    | (go_at_call 50; (with_reducible refine (refForm_8 _).mono ?_); rintro e w3 ⟨rfl, rfl⟩))
  go_ret
  exact ⟨rfl, HB1.out.alloc HB1.out.size _⟩

set_option maxHeartbeats 2000000 in
theorem right_8_end (op : Nat) (h1 : 1 ≤ op) (h2 : op ≤ 113) (hk : frmT op = 8) (i : Ins) (hop : i.op = op) (rdl : ¬ i.rd < 0) (rdh : ¬ 31 < i.rd) (al : ¬ i.a < 0) (ah : ¬ 31 < i.a) (bl : ¬ i.b < 0) (bh : ¬ 31 < i.b) (csrl : ¬ i.csr < 0) (csrh : ¬ 4095 < i.csr) (zb : (i.b != 0) = false) (zcsr : (i.csr != 0) = false) (w : World) :
    Calls Tryz.prog 30 #[.agg #[.int .i64 i.op, .int .i64 i.rd, .int .i64 i.a, .int .i64 i.b, .int .i64 i.imm, .int .i64 i.csr, .bool i.aq, .bool i.rl]] w fun e w' => e = .returned (.bool (i.imm == 0)) ∧ Below w.heap.size w w' := by
  have HR : Hid (∀ w, Calls Tryz.prog 31 #[.int .i64 i.op] w fun e w' => e = .returned (.agg #[.string (nameT op), .int .u32 (mskT op), .int .u32 (matT op), .int .u8 76]) ∧ Below w.heap.size w w') := Lib.hid fun w => by rw [hop]; have h := refRow_any op h1 h2 w; rw [hk] at h; exact h
  have Hrd : Hid (∀ w, Calls Tryz.prog 61 #[.int .u8 76, .string ⟨#[85, 74, 73, 72, 87, 82, 76, 65, 67, 90, 86]⟩] w fun e w' => e = .returned (.bool true) ∧ w = w') := Lib.hid fun w => has_rd 8 (by omega) w
  have Ha : Hid (∀ w, Calls Tryz.prog 61 #[.int .u8 76, .string ⟨#[73, 72, 87, 66, 83, 70, 82, 76, 65, 67, 86]⟩] w fun e w' => e = .returned (.bool true) ∧ w = w') := Lib.hid fun w => has_a 8 (by omega) w
  have Hb : Hid (∀ w, Calls Tryz.prog 61 #[.int .u8 76, .string ⟨#[66, 83, 70, 82, 65]⟩] w fun e w' => e = .returned (.bool false) ∧ w = w') := Lib.hid fun w => has_b 8 (by omega) w
  have Hcsr : Hid (∀ w, Calls Tryz.prog 61 #[.int .u8 76, .string ⟨#[67, 90]⟩] w fun e w' => e = .returned (.bool false) ∧ w = w') := Lib.hid fun w => has_csr 8 (by omega) w
  have Hord : Hid (∀ w, Calls Tryz.prog 61 #[.int .u8 76, .string ⟨#[76, 65]⟩] w fun e w' => e = .returned (.bool true) ∧ w = w') := Lib.hid fun w => has_ord 8 (by omega) w
  have o1 : ¬ i.op < 1 := by omega
  have o2 : ¬ 113 < i.op := by omega
  clear h1 h2 hop hk
  generalize nameT op = nm at *
  generalize (mskT op : Int) = mk at *
  generalize (matT op : Int) = mt at *
  go_enter Tryz.func30, Tryz.ntmps30
  go_wp2_with (first
    | (go_at_call 31; (with_reducible refine (HR.out _).mono ?_); rintro e1 w1 ⟨rfl, hb1⟩; have HB1 : Hid (Below w.heap.size w w1) := Lib.hid (((Below.refl _ _).alloc (Nat.le_refl _) _).trans (hb1.mono (by simp))); have hs1 : w.heap.size < w1.heap.size := (by have := hb1.size; simp at this; omega); have HIR : Hid (w1.heap[w.heap.size]? = some (.cells #[.int .i64 i.op, .int .i64 i.rd, .int .i64 i.a, .int .i64 i.b, .int .i64 i.imm, .int .i64 i.csr, .bool i.aq, .bool i.rl] 23 (0, 0))) := Lib.hid ((hb1.block _ (by simp)).trans (heap_alloc_new w _)); have d0 : w1.cell? ⟨w.heap.size, 0, none⟩ = some (.int .i64 i.op) := (by rw [cell_of_row _ _ _ _ _ _ HIR.out]; rfl); have d1 : w1.cell? ⟨w.heap.size, 1, none⟩ = some (.int .i64 i.rd) := (by rw [cell_of_row _ _ _ _ _ _ HIR.out]; rfl); have d2 : w1.cell? ⟨w.heap.size, 2, none⟩ = some (.int .i64 i.a) := (by rw [cell_of_row _ _ _ _ _ _ HIR.out]; rfl); have d3 : w1.cell? ⟨w.heap.size, 3, none⟩ = some (.int .i64 i.b) := (by rw [cell_of_row _ _ _ _ _ _ HIR.out]; rfl); have d4 : w1.cell? ⟨w.heap.size, 4, none⟩ = some (.int .i64 i.imm) := (by rw [cell_of_row _ _ _ _ _ _ HIR.out]; rfl); have d5 : w1.cell? ⟨w.heap.size, 5, none⟩ = some (.int .i64 i.csr) := (by rw [cell_of_row _ _ _ _ _ _ HIR.out]; rfl); have d6 : w1.cell? ⟨w.heap.size, 6, none⟩ = some (.bool i.aq) := (by rw [cell_of_row _ _ _ _ _ _ HIR.out]; rfl); have d7 : w1.cell? ⟨w.heap.size, 7, none⟩ = some (.bool i.rl) := (by rw [cell_of_row _ _ _ _ _ _ HIR.out]; rfl); clear hb1)
    | (go_at_call 61; (with_reducible refine (Hrd.out _).mono ?_); rintro e w3 ⟨rfl, rfl⟩)
    | (go_at_call 61; (with_reducible refine (Ha.out _).mono ?_); rintro e w3 ⟨rfl, rfl⟩)
    | (go_at_call 61; (with_reducible refine (Hb.out _).mono ?_); rintro e w3 ⟨rfl, rfl⟩)
    | (go_at_call 61; (with_reducible refine (Hcsr.out _).mono ?_); rintro e w3 ⟨rfl, rfl⟩)
    | (go_at_call 61; (with_reducible refine (Hord.out _).mono ?_); rintro e w3 ⟨rfl, rfl⟩)
    | (go_at_call 50; (with_reducible refine (refForm_8 _).mono ?_); rintro e w3 ⟨rfl, rfl⟩))
  go_ret
  exact ⟨rfl, HB1.out.alloc HB1.out.size _⟩

set_option maxHeartbeats 2000000 in
theorem right_9_csr (op : Nat) (h1 : 1 ≤ op) (h2 : op ≤ 113) (hk : frmT op = 9) (i : Ins) (hop : i.op = op) (rdl : ¬ i.rd < 0) (rdh : ¬ 31 < i.rd) (al : ¬ i.a < 0) (ah : ¬ 31 < i.a) (bl : ¬ i.b < 0) (bh : ¬ 31 < i.b) (csrl : ¬ i.csr < 0) (csrh : ¬ 4095 < i.csr) (zcsr : (i.csr != 0) = true) (w : World) :
    Calls Tryz.prog 30 #[.agg #[.int .i64 i.op, .int .i64 i.rd, .int .i64 i.a, .int .i64 i.b, .int .i64 i.imm, .int .i64 i.csr, .bool i.aq, .bool i.rl]] w fun e w' => e = .returned (.bool (false)) ∧ Below w.heap.size w w' := by
  have HR : Hid (∀ w, Calls Tryz.prog 31 #[.int .i64 i.op] w fun e w' => e = .returned (.agg #[.string (nameT op), .int .u32 (mskT op), .int .u32 (matT op), .int .u8 65]) ∧ Below w.heap.size w w') := Lib.hid fun w => by rw [hop]; have h := refRow_any op h1 h2 w; rw [hk] at h; exact h
  have Hrd : Hid (∀ w, Calls Tryz.prog 61 #[.int .u8 65, .string ⟨#[85, 74, 73, 72, 87, 82, 76, 65, 67, 90, 86]⟩] w fun e w' => e = .returned (.bool true) ∧ w = w') := Lib.hid fun w => has_rd 9 (by omega) w
  have Ha : Hid (∀ w, Calls Tryz.prog 61 #[.int .u8 65, .string ⟨#[73, 72, 87, 66, 83, 70, 82, 76, 65, 67, 86]⟩] w fun e w' => e = .returned (.bool true) ∧ w = w') := Lib.hid fun w => has_a 9 (by omega) w
  have Hb : Hid (∀ w, Calls Tryz.prog 61 #[.int .u8 65, .string ⟨#[66, 83, 70, 82, 65]⟩] w fun e w' => e = .returned (.bool true) ∧ w = w') := Lib.hid fun w => has_b 9 (by omega) w
  have Hcsr : Hid (∀ w, Calls Tryz.prog 61 #[.int .u8 65, .string ⟨#[67, 90]⟩] w fun e w' => e = .returned (.bool false) ∧ w = w') := Lib.hid fun w => has_csr 9 (by omega) w
  have Hord : Hid (∀ w, Calls Tryz.prog 61 #[.int .u8 65, .string ⟨#[76, 65]⟩] w fun e w' => e = .returned (.bool true) ∧ w = w') := Lib.hid fun w => has_ord 9 (by omega) w
  have o1 : ¬ i.op < 1 := by omega
  have o2 : ¬ 113 < i.op := by omega
  clear h1 h2 hop hk
  generalize nameT op = nm at *
  generalize (mskT op : Int) = mk at *
  generalize (matT op : Int) = mt at *
  go_enter Tryz.func30, Tryz.ntmps30
  go_wp2_with (first
    | (go_at_call 31; (with_reducible refine (HR.out _).mono ?_); rintro e1 w1 ⟨rfl, hb1⟩; have HB1 : Hid (Below w.heap.size w w1) := Lib.hid (((Below.refl _ _).alloc (Nat.le_refl _) _).trans (hb1.mono (by simp))); have hs1 : w.heap.size < w1.heap.size := (by have := hb1.size; simp at this; omega); have HIR : Hid (w1.heap[w.heap.size]? = some (.cells #[.int .i64 i.op, .int .i64 i.rd, .int .i64 i.a, .int .i64 i.b, .int .i64 i.imm, .int .i64 i.csr, .bool i.aq, .bool i.rl] 23 (0, 0))) := Lib.hid ((hb1.block _ (by simp)).trans (heap_alloc_new w _)); have d0 : w1.cell? ⟨w.heap.size, 0, none⟩ = some (.int .i64 i.op) := (by rw [cell_of_row _ _ _ _ _ _ HIR.out]; rfl); have d1 : w1.cell? ⟨w.heap.size, 1, none⟩ = some (.int .i64 i.rd) := (by rw [cell_of_row _ _ _ _ _ _ HIR.out]; rfl); have d2 : w1.cell? ⟨w.heap.size, 2, none⟩ = some (.int .i64 i.a) := (by rw [cell_of_row _ _ _ _ _ _ HIR.out]; rfl); have d3 : w1.cell? ⟨w.heap.size, 3, none⟩ = some (.int .i64 i.b) := (by rw [cell_of_row _ _ _ _ _ _ HIR.out]; rfl); have d4 : w1.cell? ⟨w.heap.size, 4, none⟩ = some (.int .i64 i.imm) := (by rw [cell_of_row _ _ _ _ _ _ HIR.out]; rfl); have d5 : w1.cell? ⟨w.heap.size, 5, none⟩ = some (.int .i64 i.csr) := (by rw [cell_of_row _ _ _ _ _ _ HIR.out]; rfl); have d6 : w1.cell? ⟨w.heap.size, 6, none⟩ = some (.bool i.aq) := (by rw [cell_of_row _ _ _ _ _ _ HIR.out]; rfl); have d7 : w1.cell? ⟨w.heap.size, 7, none⟩ = some (.bool i.rl) := (by rw [cell_of_row _ _ _ _ _ _ HIR.out]; rfl); clear hb1)
    | (go_at_call 61; (with_reducible refine (Hrd.out _).mono ?_); rintro e w3 ⟨rfl, rfl⟩)
    | (go_at_call 61; (with_reducible refine (Ha.out _).mono ?_); rintro e w3 ⟨rfl, rfl⟩)
    | (go_at_call 61; (with_reducible refine (Hb.out _).mono ?_); rintro e w3 ⟨rfl, rfl⟩)
    | (go_at_call 61; (with_reducible refine (Hcsr.out _).mono ?_); rintro e w3 ⟨rfl, rfl⟩)
    | (go_at_call 61; (with_reducible refine (Hord.out _).mono ?_); rintro e w3 ⟨rfl, rfl⟩)
    | (go_at_call 50; (with_reducible refine (refForm_9 _).mono ?_); rintro e w3 ⟨rfl, rfl⟩))
  go_ret
  exact ⟨rfl, HB1.out.alloc HB1.out.size _⟩

set_option maxHeartbeats 2000000 in
theorem right_9_end (op : Nat) (h1 : 1 ≤ op) (h2 : op ≤ 113) (hk : frmT op = 9) (i : Ins) (hop : i.op = op) (rdl : ¬ i.rd < 0) (rdh : ¬ 31 < i.rd) (al : ¬ i.a < 0) (ah : ¬ 31 < i.a) (bl : ¬ i.b < 0) (bh : ¬ 31 < i.b) (csrl : ¬ i.csr < 0) (csrh : ¬ 4095 < i.csr) (zcsr : (i.csr != 0) = false) (w : World) :
    Calls Tryz.prog 30 #[.agg #[.int .i64 i.op, .int .i64 i.rd, .int .i64 i.a, .int .i64 i.b, .int .i64 i.imm, .int .i64 i.csr, .bool i.aq, .bool i.rl]] w fun e w' => e = .returned (.bool (i.imm == 0)) ∧ Below w.heap.size w w' := by
  have HR : Hid (∀ w, Calls Tryz.prog 31 #[.int .i64 i.op] w fun e w' => e = .returned (.agg #[.string (nameT op), .int .u32 (mskT op), .int .u32 (matT op), .int .u8 65]) ∧ Below w.heap.size w w') := Lib.hid fun w => by rw [hop]; have h := refRow_any op h1 h2 w; rw [hk] at h; exact h
  have Hrd : Hid (∀ w, Calls Tryz.prog 61 #[.int .u8 65, .string ⟨#[85, 74, 73, 72, 87, 82, 76, 65, 67, 90, 86]⟩] w fun e w' => e = .returned (.bool true) ∧ w = w') := Lib.hid fun w => has_rd 9 (by omega) w
  have Ha : Hid (∀ w, Calls Tryz.prog 61 #[.int .u8 65, .string ⟨#[73, 72, 87, 66, 83, 70, 82, 76, 65, 67, 86]⟩] w fun e w' => e = .returned (.bool true) ∧ w = w') := Lib.hid fun w => has_a 9 (by omega) w
  have Hb : Hid (∀ w, Calls Tryz.prog 61 #[.int .u8 65, .string ⟨#[66, 83, 70, 82, 65]⟩] w fun e w' => e = .returned (.bool true) ∧ w = w') := Lib.hid fun w => has_b 9 (by omega) w
  have Hcsr : Hid (∀ w, Calls Tryz.prog 61 #[.int .u8 65, .string ⟨#[67, 90]⟩] w fun e w' => e = .returned (.bool false) ∧ w = w') := Lib.hid fun w => has_csr 9 (by omega) w
  have Hord : Hid (∀ w, Calls Tryz.prog 61 #[.int .u8 65, .string ⟨#[76, 65]⟩] w fun e w' => e = .returned (.bool true) ∧ w = w') := Lib.hid fun w => has_ord 9 (by omega) w
  have o1 : ¬ i.op < 1 := by omega
  have o2 : ¬ 113 < i.op := by omega
  clear h1 h2 hop hk
  generalize nameT op = nm at *
  generalize (mskT op : Int) = mk at *
  generalize (matT op : Int) = mt at *
  go_enter Tryz.func30, Tryz.ntmps30
  go_wp2_with (first
    | (go_at_call 31; (with_reducible refine (HR.out _).mono ?_); rintro e1 w1 ⟨rfl, hb1⟩; have HB1 : Hid (Below w.heap.size w w1) := Lib.hid (((Below.refl _ _).alloc (Nat.le_refl _) _).trans (hb1.mono (by simp))); have hs1 : w.heap.size < w1.heap.size := (by have := hb1.size; simp at this; omega); have HIR : Hid (w1.heap[w.heap.size]? = some (.cells #[.int .i64 i.op, .int .i64 i.rd, .int .i64 i.a, .int .i64 i.b, .int .i64 i.imm, .int .i64 i.csr, .bool i.aq, .bool i.rl] 23 (0, 0))) := Lib.hid ((hb1.block _ (by simp)).trans (heap_alloc_new w _)); have d0 : w1.cell? ⟨w.heap.size, 0, none⟩ = some (.int .i64 i.op) := (by rw [cell_of_row _ _ _ _ _ _ HIR.out]; rfl); have d1 : w1.cell? ⟨w.heap.size, 1, none⟩ = some (.int .i64 i.rd) := (by rw [cell_of_row _ _ _ _ _ _ HIR.out]; rfl); have d2 : w1.cell? ⟨w.heap.size, 2, none⟩ = some (.int .i64 i.a) := (by rw [cell_of_row _ _ _ _ _ _ HIR.out]; rfl); have d3 : w1.cell? ⟨w.heap.size, 3, none⟩ = some (.int .i64 i.b) := (by rw [cell_of_row _ _ _ _ _ _ HIR.out]; rfl); have d4 : w1.cell? ⟨w.heap.size, 4, none⟩ = some (.int .i64 i.imm) := (by rw [cell_of_row _ _ _ _ _ _ HIR.out]; rfl); have d5 : w1.cell? ⟨w.heap.size, 5, none⟩ = some (.int .i64 i.csr) := (by rw [cell_of_row _ _ _ _ _ _ HIR.out]; rfl); have d6 : w1.cell? ⟨w.heap.size, 6, none⟩ = some (.bool i.aq) := (by rw [cell_of_row _ _ _ _ _ _ HIR.out]; rfl); have d7 : w1.cell? ⟨w.heap.size, 7, none⟩ = some (.bool i.rl) := (by rw [cell_of_row _ _ _ _ _ _ HIR.out]; rfl); clear hb1)
    | (go_at_call 61; (with_reducible refine (Hrd.out _).mono ?_); rintro e w3 ⟨rfl, rfl⟩)
    | (go_at_call 61; (with_reducible refine (Ha.out _).mono ?_); rintro e w3 ⟨rfl, rfl⟩)
    | (go_at_call 61; (with_reducible refine (Hb.out _).mono ?_); rintro e w3 ⟨rfl, rfl⟩)
    | (go_at_call 61; (with_reducible refine (Hcsr.out _).mono ?_); rintro e w3 ⟨rfl, rfl⟩)
    | (go_at_call 61; (with_reducible refine (Hord.out _).mono ?_); rintro e w3 ⟨rfl, rfl⟩)
    | (go_at_call 50; (with_reducible refine (refForm_9 _).mono ?_); rintro e w3 ⟨rfl, rfl⟩))
  go_ret
  exact ⟨rfl, HB1.out.alloc HB1.out.size _⟩

end Go.Proofs.YtakdhdaoklcidaaGreatDoor

namespace Go.Proofs.YtakdhdaoklcidaaGreatDoor
open Go.RowKit
set_option linter.unusedVariables false
set_option maxRecDepth 100000

set_option maxHeartbeats 2000000 in
theorem right_10_rd (op : Nat) (h1 : 1 ≤ op) (h2 : op ≤ 113) (hk : frmT op = 10) (i : Ins) (hop : i.op = op) (rdl : ¬ i.rd < 0) (rdh : ¬ 31 < i.rd) (al : ¬ i.a < 0) (ah : ¬ 31 < i.a) (bl : ¬ i.b < 0) (bh : ¬ 31 < i.b) (csrl : ¬ i.csr < 0) (csrh : ¬ 4095 < i.csr) (zrd : (i.rd != 0) = true) (w : World) :
    Calls Tryz.prog 30 #[.agg #[.int .i64 i.op, .int .i64 i.rd, .int .i64 i.a, .int .i64 i.b, .int .i64 i.imm, .int .i64 i.csr, .bool i.aq, .bool i.rl]] w fun e w' => e = .returned (.bool (false)) ∧ Below w.heap.size w w' := by
  have HR : Hid (∀ w, Calls Tryz.prog 31 #[.int .i64 i.op] w fun e w' => e = .returned (.agg #[.string (nameT op), .int .u32 (mskT op), .int .u32 (matT op), .int .u8 78]) ∧ Below w.heap.size w w') := Lib.hid fun w => by rw [hop]; have h := refRow_any op h1 h2 w; rw [hk] at h; exact h
  have Hrd : Hid (∀ w, Calls Tryz.prog 61 #[.int .u8 78, .string ⟨#[85, 74, 73, 72, 87, 82, 76, 65, 67, 90, 86]⟩] w fun e w' => e = .returned (.bool false) ∧ w = w') := Lib.hid fun w => has_rd 10 (by omega) w
  have Ha : Hid (∀ w, Calls Tryz.prog 61 #[.int .u8 78, .string ⟨#[73, 72, 87, 66, 83, 70, 82, 76, 65, 67, 86]⟩] w fun e w' => e = .returned (.bool false) ∧ w = w') := Lib.hid fun w => has_a 10 (by omega) w
  have Hb : Hid (∀ w, Calls Tryz.prog 61 #[.int .u8 78, .string ⟨#[66, 83, 70, 82, 65]⟩] w fun e w' => e = .returned (.bool false) ∧ w = w') := Lib.hid fun w => has_b 10 (by omega) w
  have Hcsr : Hid (∀ w, Calls Tryz.prog 61 #[.int .u8 78, .string ⟨#[67, 90]⟩] w fun e w' => e = .returned (.bool false) ∧ w = w') := Lib.hid fun w => has_csr 10 (by omega) w
  have Hord : Hid (∀ w, Calls Tryz.prog 61 #[.int .u8 78, .string ⟨#[76, 65]⟩] w fun e w' => e = .returned (.bool false) ∧ w = w') := Lib.hid fun w => has_ord 10 (by omega) w
  have o1 : ¬ i.op < 1 := by omega
  have o2 : ¬ 113 < i.op := by omega
  clear h1 h2 hop hk
  generalize nameT op = nm at *
  generalize (mskT op : Int) = mk at *
  generalize (matT op : Int) = mt at *
  go_enter Tryz.func30, Tryz.ntmps30
  go_wp2_with (first
    | (go_at_call 31; (with_reducible refine (HR.out _).mono ?_); rintro e1 w1 ⟨rfl, hb1⟩; have HB1 : Hid (Below w.heap.size w w1) := Lib.hid (((Below.refl _ _).alloc (Nat.le_refl _) _).trans (hb1.mono (by simp))); have hs1 : w.heap.size < w1.heap.size := (by have := hb1.size; simp at this; omega); have HIR : Hid (w1.heap[w.heap.size]? = some (.cells #[.int .i64 i.op, .int .i64 i.rd, .int .i64 i.a, .int .i64 i.b, .int .i64 i.imm, .int .i64 i.csr, .bool i.aq, .bool i.rl] 23 (0, 0))) := Lib.hid ((hb1.block _ (by simp)).trans (heap_alloc_new w _)); have d0 : w1.cell? ⟨w.heap.size, 0, none⟩ = some (.int .i64 i.op) := (by rw [cell_of_row _ _ _ _ _ _ HIR.out]; rfl); have d1 : w1.cell? ⟨w.heap.size, 1, none⟩ = some (.int .i64 i.rd) := (by rw [cell_of_row _ _ _ _ _ _ HIR.out]; rfl); have d2 : w1.cell? ⟨w.heap.size, 2, none⟩ = some (.int .i64 i.a) := (by rw [cell_of_row _ _ _ _ _ _ HIR.out]; rfl); have d3 : w1.cell? ⟨w.heap.size, 3, none⟩ = some (.int .i64 i.b) := (by rw [cell_of_row _ _ _ _ _ _ HIR.out]; rfl); have d4 : w1.cell? ⟨w.heap.size, 4, none⟩ = some (.int .i64 i.imm) := (by rw [cell_of_row _ _ _ _ _ _ HIR.out]; rfl); have d5 : w1.cell? ⟨w.heap.size, 5, none⟩ = some (.int .i64 i.csr) := (by rw [cell_of_row _ _ _ _ _ _ HIR.out]; rfl); have d6 : w1.cell? ⟨w.heap.size, 6, none⟩ = some (.bool i.aq) := (by rw [cell_of_row _ _ _ _ _ _ HIR.out]; rfl); have d7 : w1.cell? ⟨w.heap.size, 7, none⟩ = some (.bool i.rl) := (by rw [cell_of_row _ _ _ _ _ _ HIR.out]; rfl); clear hb1)
    | (go_at_call 61; (with_reducible refine (Hrd.out _).mono ?_); rintro e w3 ⟨rfl, rfl⟩)
    | (go_at_call 61; (with_reducible refine (Ha.out _).mono ?_); rintro e w3 ⟨rfl, rfl⟩)
    | (go_at_call 61; (with_reducible refine (Hb.out _).mono ?_); rintro e w3 ⟨rfl, rfl⟩)
    | (go_at_call 61; (with_reducible refine (Hcsr.out _).mono ?_); rintro e w3 ⟨rfl, rfl⟩)
    | (go_at_call 61; (with_reducible refine (Hord.out _).mono ?_); rintro e w3 ⟨rfl, rfl⟩)
    | (go_at_call 50; (with_reducible refine (refForm_10 _).mono ?_); rintro e w3 ⟨rfl, rfl⟩))
  go_ret
  exact ⟨rfl, HB1.out.alloc HB1.out.size _⟩

set_option maxHeartbeats 2000000 in
theorem right_10_a (op : Nat) (h1 : 1 ≤ op) (h2 : op ≤ 113) (hk : frmT op = 10) (i : Ins) (hop : i.op = op) (rdl : ¬ i.rd < 0) (rdh : ¬ 31 < i.rd) (al : ¬ i.a < 0) (ah : ¬ 31 < i.a) (bl : ¬ i.b < 0) (bh : ¬ 31 < i.b) (csrl : ¬ i.csr < 0) (csrh : ¬ 4095 < i.csr) (zrd : (i.rd != 0) = false) (za : (i.a != 0) = true) (w : World) :
    Calls Tryz.prog 30 #[.agg #[.int .i64 i.op, .int .i64 i.rd, .int .i64 i.a, .int .i64 i.b, .int .i64 i.imm, .int .i64 i.csr, .bool i.aq, .bool i.rl]] w fun e w' => e = .returned (.bool (false)) ∧ Below w.heap.size w w' := by
  have HR : Hid (∀ w, Calls Tryz.prog 31 #[.int .i64 i.op] w fun e w' => e = .returned (.agg #[.string (nameT op), .int .u32 (mskT op), .int .u32 (matT op), .int .u8 78]) ∧ Below w.heap.size w w') := Lib.hid fun w => by rw [hop]; have h := refRow_any op h1 h2 w; rw [hk] at h; exact h
  have Hrd : Hid (∀ w, Calls Tryz.prog 61 #[.int .u8 78, .string ⟨#[85, 74, 73, 72, 87, 82, 76, 65, 67, 90, 86]⟩] w fun e w' => e = .returned (.bool false) ∧ w = w') := Lib.hid fun w => has_rd 10 (by omega) w
  have Ha : Hid (∀ w, Calls Tryz.prog 61 #[.int .u8 78, .string ⟨#[73, 72, 87, 66, 83, 70, 82, 76, 65, 67, 86]⟩] w fun e w' => e = .returned (.bool false) ∧ w = w') := Lib.hid fun w => has_a 10 (by omega) w
  have Hb : Hid (∀ w, Calls Tryz.prog 61 #[.int .u8 78, .string ⟨#[66, 83, 70, 82, 65]⟩] w fun e w' => e = .returned (.bool false) ∧ w = w') := Lib.hid fun w => has_b 10 (by omega) w
  have Hcsr : Hid (∀ w, Calls Tryz.prog 61 #[.int .u8 78, .string ⟨#[67, 90]⟩] w fun e w' => e = .returned (.bool false) ∧ w = w') := Lib.hid fun w => has_csr 10 (by omega) w
  have Hord : Hid (∀ w, Calls Tryz.prog 61 #[.int .u8 78, .string ⟨#[76, 65]⟩] w fun e w' => e = .returned (.bool false) ∧ w = w') := Lib.hid fun w => has_ord 10 (by omega) w
  have o1 : ¬ i.op < 1 := by omega
  have o2 : ¬ 113 < i.op := by omega
  clear h1 h2 hop hk
  generalize nameT op = nm at *
  generalize (mskT op : Int) = mk at *
  generalize (matT op : Int) = mt at *
  go_enter Tryz.func30, Tryz.ntmps30
  go_wp2_with (first
    | (go_at_call 31; (with_reducible refine (HR.out _).mono ?_); rintro e1 w1 ⟨rfl, hb1⟩; have HB1 : Hid (Below w.heap.size w w1) := Lib.hid (((Below.refl _ _).alloc (Nat.le_refl _) _).trans (hb1.mono (by simp))); have hs1 : w.heap.size < w1.heap.size := (by have := hb1.size; simp at this; omega); have HIR : Hid (w1.heap[w.heap.size]? = some (.cells #[.int .i64 i.op, .int .i64 i.rd, .int .i64 i.a, .int .i64 i.b, .int .i64 i.imm, .int .i64 i.csr, .bool i.aq, .bool i.rl] 23 (0, 0))) := Lib.hid ((hb1.block _ (by simp)).trans (heap_alloc_new w _)); have d0 : w1.cell? ⟨w.heap.size, 0, none⟩ = some (.int .i64 i.op) := (by rw [cell_of_row _ _ _ _ _ _ HIR.out]; rfl); have d1 : w1.cell? ⟨w.heap.size, 1, none⟩ = some (.int .i64 i.rd) := (by rw [cell_of_row _ _ _ _ _ _ HIR.out]; rfl); have d2 : w1.cell? ⟨w.heap.size, 2, none⟩ = some (.int .i64 i.a) := (by rw [cell_of_row _ _ _ _ _ _ HIR.out]; rfl); have d3 : w1.cell? ⟨w.heap.size, 3, none⟩ = some (.int .i64 i.b) := (by rw [cell_of_row _ _ _ _ _ _ HIR.out]; rfl); have d4 : w1.cell? ⟨w.heap.size, 4, none⟩ = some (.int .i64 i.imm) := (by rw [cell_of_row _ _ _ _ _ _ HIR.out]; rfl); have d5 : w1.cell? ⟨w.heap.size, 5, none⟩ = some (.int .i64 i.csr) := (by rw [cell_of_row _ _ _ _ _ _ HIR.out]; rfl); have d6 : w1.cell? ⟨w.heap.size, 6, none⟩ = some (.bool i.aq) := (by rw [cell_of_row _ _ _ _ _ _ HIR.out]; rfl); have d7 : w1.cell? ⟨w.heap.size, 7, none⟩ = some (.bool i.rl) := (by rw [cell_of_row _ _ _ _ _ _ HIR.out]; rfl); clear hb1)
    | (go_at_call 61; (with_reducible refine (Hrd.out _).mono ?_); rintro e w3 ⟨rfl, rfl⟩)
    | (go_at_call 61; (with_reducible refine (Ha.out _).mono ?_); rintro e w3 ⟨rfl, rfl⟩)
    | (go_at_call 61; (with_reducible refine (Hb.out _).mono ?_); rintro e w3 ⟨rfl, rfl⟩)
    | (go_at_call 61; (with_reducible refine (Hcsr.out _).mono ?_); rintro e w3 ⟨rfl, rfl⟩)
    | (go_at_call 61; (with_reducible refine (Hord.out _).mono ?_); rintro e w3 ⟨rfl, rfl⟩)
    | (go_at_call 50; (with_reducible refine (refForm_10 _).mono ?_); rintro e w3 ⟨rfl, rfl⟩))
  go_ret
  exact ⟨rfl, HB1.out.alloc HB1.out.size _⟩

set_option maxHeartbeats 2000000 in
theorem right_10_b (op : Nat) (h1 : 1 ≤ op) (h2 : op ≤ 113) (hk : frmT op = 10) (i : Ins) (hop : i.op = op) (rdl : ¬ i.rd < 0) (rdh : ¬ 31 < i.rd) (al : ¬ i.a < 0) (ah : ¬ 31 < i.a) (bl : ¬ i.b < 0) (bh : ¬ 31 < i.b) (csrl : ¬ i.csr < 0) (csrh : ¬ 4095 < i.csr) (zrd : (i.rd != 0) = false) (za : (i.a != 0) = false) (zb : (i.b != 0) = true) (w : World) :
    Calls Tryz.prog 30 #[.agg #[.int .i64 i.op, .int .i64 i.rd, .int .i64 i.a, .int .i64 i.b, .int .i64 i.imm, .int .i64 i.csr, .bool i.aq, .bool i.rl]] w fun e w' => e = .returned (.bool (false)) ∧ Below w.heap.size w w' := by
  have HR : Hid (∀ w, Calls Tryz.prog 31 #[.int .i64 i.op] w fun e w' => e = .returned (.agg #[.string (nameT op), .int .u32 (mskT op), .int .u32 (matT op), .int .u8 78]) ∧ Below w.heap.size w w') := Lib.hid fun w => by rw [hop]; have h := refRow_any op h1 h2 w; rw [hk] at h; exact h
  have Hrd : Hid (∀ w, Calls Tryz.prog 61 #[.int .u8 78, .string ⟨#[85, 74, 73, 72, 87, 82, 76, 65, 67, 90, 86]⟩] w fun e w' => e = .returned (.bool false) ∧ w = w') := Lib.hid fun w => has_rd 10 (by omega) w
  have Ha : Hid (∀ w, Calls Tryz.prog 61 #[.int .u8 78, .string ⟨#[73, 72, 87, 66, 83, 70, 82, 76, 65, 67, 86]⟩] w fun e w' => e = .returned (.bool false) ∧ w = w') := Lib.hid fun w => has_a 10 (by omega) w
  have Hb : Hid (∀ w, Calls Tryz.prog 61 #[.int .u8 78, .string ⟨#[66, 83, 70, 82, 65]⟩] w fun e w' => e = .returned (.bool false) ∧ w = w') := Lib.hid fun w => has_b 10 (by omega) w
  have Hcsr : Hid (∀ w, Calls Tryz.prog 61 #[.int .u8 78, .string ⟨#[67, 90]⟩] w fun e w' => e = .returned (.bool false) ∧ w = w') := Lib.hid fun w => has_csr 10 (by omega) w
  have Hord : Hid (∀ w, Calls Tryz.prog 61 #[.int .u8 78, .string ⟨#[76, 65]⟩] w fun e w' => e = .returned (.bool false) ∧ w = w') := Lib.hid fun w => has_ord 10 (by omega) w
  have o1 : ¬ i.op < 1 := by omega
  have o2 : ¬ 113 < i.op := by omega
  clear h1 h2 hop hk
  generalize nameT op = nm at *
  generalize (mskT op : Int) = mk at *
  generalize (matT op : Int) = mt at *
  go_enter Tryz.func30, Tryz.ntmps30
  go_wp2_with (first
    | (go_at_call 31; (with_reducible refine (HR.out _).mono ?_); rintro e1 w1 ⟨rfl, hb1⟩; have HB1 : Hid (Below w.heap.size w w1) := Lib.hid (((Below.refl _ _).alloc (Nat.le_refl _) _).trans (hb1.mono (by simp))); have hs1 : w.heap.size < w1.heap.size := (by have := hb1.size; simp at this; omega); have HIR : Hid (w1.heap[w.heap.size]? = some (.cells #[.int .i64 i.op, .int .i64 i.rd, .int .i64 i.a, .int .i64 i.b, .int .i64 i.imm, .int .i64 i.csr, .bool i.aq, .bool i.rl] 23 (0, 0))) := Lib.hid ((hb1.block _ (by simp)).trans (heap_alloc_new w _)); have d0 : w1.cell? ⟨w.heap.size, 0, none⟩ = some (.int .i64 i.op) := (by rw [cell_of_row _ _ _ _ _ _ HIR.out]; rfl); have d1 : w1.cell? ⟨w.heap.size, 1, none⟩ = some (.int .i64 i.rd) := (by rw [cell_of_row _ _ _ _ _ _ HIR.out]; rfl); have d2 : w1.cell? ⟨w.heap.size, 2, none⟩ = some (.int .i64 i.a) := (by rw [cell_of_row _ _ _ _ _ _ HIR.out]; rfl); have d3 : w1.cell? ⟨w.heap.size, 3, none⟩ = some (.int .i64 i.b) := (by rw [cell_of_row _ _ _ _ _ _ HIR.out]; rfl); have d4 : w1.cell? ⟨w.heap.size, 4, none⟩ = some (.int .i64 i.imm) := (by rw [cell_of_row _ _ _ _ _ _ HIR.out]; rfl); have d5 : w1.cell? ⟨w.heap.size, 5, none⟩ = some (.int .i64 i.csr) := (by rw [cell_of_row _ _ _ _ _ _ HIR.out]; rfl); have d6 : w1.cell? ⟨w.heap.size, 6, none⟩ = some (.bool i.aq) := (by rw [cell_of_row _ _ _ _ _ _ HIR.out]; rfl); have d7 : w1.cell? ⟨w.heap.size, 7, none⟩ = some (.bool i.rl) := (by rw [cell_of_row _ _ _ _ _ _ HIR.out]; rfl); clear hb1)
    | (go_at_call 61; (with_reducible refine (Hrd.out _).mono ?_); rintro e w3 ⟨rfl, rfl⟩)
    | (go_at_call 61; (with_reducible refine (Ha.out _).mono ?_); rintro e w3 ⟨rfl, rfl⟩)
    | (go_at_call 61; (with_reducible refine (Hb.out _).mono ?_); rintro e w3 ⟨rfl, rfl⟩)
    | (go_at_call 61; (with_reducible refine (Hcsr.out _).mono ?_); rintro e w3 ⟨rfl, rfl⟩)
    | (go_at_call 61; (with_reducible refine (Hord.out _).mono ?_); rintro e w3 ⟨rfl, rfl⟩)
    | (go_at_call 50; (with_reducible refine (refForm_10 _).mono ?_); rintro e w3 ⟨rfl, rfl⟩))
  go_ret
  exact ⟨rfl, HB1.out.alloc HB1.out.size _⟩

set_option maxHeartbeats 2000000 in
theorem right_10_csr (op : Nat) (h1 : 1 ≤ op) (h2 : op ≤ 113) (hk : frmT op = 10) (i : Ins) (hop : i.op = op) (rdl : ¬ i.rd < 0) (rdh : ¬ 31 < i.rd) (al : ¬ i.a < 0) (ah : ¬ 31 < i.a) (bl : ¬ i.b < 0) (bh : ¬ 31 < i.b) (csrl : ¬ i.csr < 0) (csrh : ¬ 4095 < i.csr) (zrd : (i.rd != 0) = false) (za : (i.a != 0) = false) (zb : (i.b != 0) = false) (zcsr : (i.csr != 0) = true) (w : World) :
    Calls Tryz.prog 30 #[.agg #[.int .i64 i.op, .int .i64 i.rd, .int .i64 i.a, .int .i64 i.b, .int .i64 i.imm, .int .i64 i.csr, .bool i.aq, .bool i.rl]] w fun e w' => e = .returned (.bool (false)) ∧ Below w.heap.size w w' := by
  have HR : Hid (∀ w, Calls Tryz.prog 31 #[.int .i64 i.op] w fun e w' => e = .returned (.agg #[.string (nameT op), .int .u32 (mskT op), .int .u32 (matT op), .int .u8 78]) ∧ Below w.heap.size w w') := Lib.hid fun w => by rw [hop]; have h := refRow_any op h1 h2 w; rw [hk] at h; exact h
  have Hrd : Hid (∀ w, Calls Tryz.prog 61 #[.int .u8 78, .string ⟨#[85, 74, 73, 72, 87, 82, 76, 65, 67, 90, 86]⟩] w fun e w' => e = .returned (.bool false) ∧ w = w') := Lib.hid fun w => has_rd 10 (by omega) w
  have Ha : Hid (∀ w, Calls Tryz.prog 61 #[.int .u8 78, .string ⟨#[73, 72, 87, 66, 83, 70, 82, 76, 65, 67, 86]⟩] w fun e w' => e = .returned (.bool false) ∧ w = w') := Lib.hid fun w => has_a 10 (by omega) w
  have Hb : Hid (∀ w, Calls Tryz.prog 61 #[.int .u8 78, .string ⟨#[66, 83, 70, 82, 65]⟩] w fun e w' => e = .returned (.bool false) ∧ w = w') := Lib.hid fun w => has_b 10 (by omega) w
  have Hcsr : Hid (∀ w, Calls Tryz.prog 61 #[.int .u8 78, .string ⟨#[67, 90]⟩] w fun e w' => e = .returned (.bool false) ∧ w = w') := Lib.hid fun w => has_csr 10 (by omega) w
  have Hord : Hid (∀ w, Calls Tryz.prog 61 #[.int .u8 78, .string ⟨#[76, 65]⟩] w fun e w' => e = .returned (.bool false) ∧ w = w') := Lib.hid fun w => has_ord 10 (by omega) w
  have o1 : ¬ i.op < 1 := by omega
  have o2 : ¬ 113 < i.op := by omega
  clear h1 h2 hop hk
  generalize nameT op = nm at *
  generalize (mskT op : Int) = mk at *
  generalize (matT op : Int) = mt at *
  go_enter Tryz.func30, Tryz.ntmps30
  go_wp2_with (first
    | (go_at_call 31; (with_reducible refine (HR.out _).mono ?_); rintro e1 w1 ⟨rfl, hb1⟩; have HB1 : Hid (Below w.heap.size w w1) := Lib.hid (((Below.refl _ _).alloc (Nat.le_refl _) _).trans (hb1.mono (by simp))); have hs1 : w.heap.size < w1.heap.size := (by have := hb1.size; simp at this; omega); have HIR : Hid (w1.heap[w.heap.size]? = some (.cells #[.int .i64 i.op, .int .i64 i.rd, .int .i64 i.a, .int .i64 i.b, .int .i64 i.imm, .int .i64 i.csr, .bool i.aq, .bool i.rl] 23 (0, 0))) := Lib.hid ((hb1.block _ (by simp)).trans (heap_alloc_new w _)); have d0 : w1.cell? ⟨w.heap.size, 0, none⟩ = some (.int .i64 i.op) := (by rw [cell_of_row _ _ _ _ _ _ HIR.out]; rfl); have d1 : w1.cell? ⟨w.heap.size, 1, none⟩ = some (.int .i64 i.rd) := (by rw [cell_of_row _ _ _ _ _ _ HIR.out]; rfl); have d2 : w1.cell? ⟨w.heap.size, 2, none⟩ = some (.int .i64 i.a) := (by rw [cell_of_row _ _ _ _ _ _ HIR.out]; rfl); have d3 : w1.cell? ⟨w.heap.size, 3, none⟩ = some (.int .i64 i.b) := (by rw [cell_of_row _ _ _ _ _ _ HIR.out]; rfl); have d4 : w1.cell? ⟨w.heap.size, 4, none⟩ = some (.int .i64 i.imm) := (by rw [cell_of_row _ _ _ _ _ _ HIR.out]; rfl); have d5 : w1.cell? ⟨w.heap.size, 5, none⟩ = some (.int .i64 i.csr) := (by rw [cell_of_row _ _ _ _ _ _ HIR.out]; rfl); have d6 : w1.cell? ⟨w.heap.size, 6, none⟩ = some (.bool i.aq) := (by rw [cell_of_row _ _ _ _ _ _ HIR.out]; rfl); have d7 : w1.cell? ⟨w.heap.size, 7, none⟩ = some (.bool i.rl) := (by rw [cell_of_row _ _ _ _ _ _ HIR.out]; rfl); clear hb1)
    | (go_at_call 61; (with_reducible refine (Hrd.out _).mono ?_); rintro e w3 ⟨rfl, rfl⟩)
    | (go_at_call 61; (with_reducible refine (Ha.out _).mono ?_); rintro e w3 ⟨rfl, rfl⟩)
    | (go_at_call 61; (with_reducible refine (Hb.out _).mono ?_); rintro e w3 ⟨rfl, rfl⟩)
    | (go_at_call 61; (with_reducible refine (Hcsr.out _).mono ?_); rintro e w3 ⟨rfl, rfl⟩)
    | (go_at_call 61; (with_reducible refine (Hord.out _).mono ?_); rintro e w3 ⟨rfl, rfl⟩)
    | (go_at_call 50; (with_reducible refine (refForm_10 _).mono ?_); rintro e w3 ⟨rfl, rfl⟩))
  go_ret
  exact ⟨rfl, HB1.out.alloc HB1.out.size _⟩

set_option maxHeartbeats 2000000 in
theorem right_10_aq (op : Nat) (h1 : 1 ≤ op) (h2 : op ≤ 113) (hk : frmT op = 10) (i : Ins) (hop : i.op = op) (rdl : ¬ i.rd < 0) (rdh : ¬ 31 < i.rd) (al : ¬ i.a < 0) (ah : ¬ 31 < i.a) (bl : ¬ i.b < 0) (bh : ¬ 31 < i.b) (csrl : ¬ i.csr < 0) (csrh : ¬ 4095 < i.csr) (zrd : (i.rd != 0) = false) (za : (i.a != 0) = false) (zb : (i.b != 0) = false) (zcsr : (i.csr != 0) = false) (zaq : i.aq = true) (w : World) :
    Calls Tryz.prog 30 #[.agg #[.int .i64 i.op, .int .i64 i.rd, .int .i64 i.a, .int .i64 i.b, .int .i64 i.imm, .int .i64 i.csr, .bool i.aq, .bool i.rl]] w fun e w' => e = .returned (.bool (false)) ∧ Below w.heap.size w w' := by
  have HR : Hid (∀ w, Calls Tryz.prog 31 #[.int .i64 i.op] w fun e w' => e = .returned (.agg #[.string (nameT op), .int .u32 (mskT op), .int .u32 (matT op), .int .u8 78]) ∧ Below w.heap.size w w') := Lib.hid fun w => by rw [hop]; have h := refRow_any op h1 h2 w; rw [hk] at h; exact h
  have Hrd : Hid (∀ w, Calls Tryz.prog 61 #[.int .u8 78, .string ⟨#[85, 74, 73, 72, 87, 82, 76, 65, 67, 90, 86]⟩] w fun e w' => e = .returned (.bool false) ∧ w = w') := Lib.hid fun w => has_rd 10 (by omega) w
  have Ha : Hid (∀ w, Calls Tryz.prog 61 #[.int .u8 78, .string ⟨#[73, 72, 87, 66, 83, 70, 82, 76, 65, 67, 86]⟩] w fun e w' => e = .returned (.bool false) ∧ w = w') := Lib.hid fun w => has_a 10 (by omega) w
  have Hb : Hid (∀ w, Calls Tryz.prog 61 #[.int .u8 78, .string ⟨#[66, 83, 70, 82, 65]⟩] w fun e w' => e = .returned (.bool false) ∧ w = w') := Lib.hid fun w => has_b 10 (by omega) w
  have Hcsr : Hid (∀ w, Calls Tryz.prog 61 #[.int .u8 78, .string ⟨#[67, 90]⟩] w fun e w' => e = .returned (.bool false) ∧ w = w') := Lib.hid fun w => has_csr 10 (by omega) w
  have Hord : Hid (∀ w, Calls Tryz.prog 61 #[.int .u8 78, .string ⟨#[76, 65]⟩] w fun e w' => e = .returned (.bool false) ∧ w = w') := Lib.hid fun w => has_ord 10 (by omega) w
  have o1 : ¬ i.op < 1 := by omega
  have o2 : ¬ 113 < i.op := by omega
  clear h1 h2 hop hk
  generalize nameT op = nm at *
  generalize (mskT op : Int) = mk at *
  generalize (matT op : Int) = mt at *
  go_enter Tryz.func30, Tryz.ntmps30
  go_wp2_with (first
    | (go_at_call 31; (with_reducible refine (HR.out _).mono ?_); rintro e1 w1 ⟨rfl, hb1⟩; have HB1 : Hid (Below w.heap.size w w1) := Lib.hid (((Below.refl _ _).alloc (Nat.le_refl _) _).trans (hb1.mono (by simp))); have hs1 : w.heap.size < w1.heap.size := (by have := hb1.size; simp at this; omega); have HIR : Hid (w1.heap[w.heap.size]? = some (.cells #[.int .i64 i.op, .int .i64 i.rd, .int .i64 i.a, .int .i64 i.b, .int .i64 i.imm, .int .i64 i.csr, .bool true, .bool i.rl] 23 (0, 0))) := Lib.hid ((hb1.block _ (by simp)).trans (heap_alloc_new w _)); have d0 : w1.cell? ⟨w.heap.size, 0, none⟩ = some (.int .i64 i.op) := (by rw [cell_of_row _ _ _ _ _ _ HIR.out]; rfl); have d1 : w1.cell? ⟨w.heap.size, 1, none⟩ = some (.int .i64 i.rd) := (by rw [cell_of_row _ _ _ _ _ _ HIR.out]; rfl); have d2 : w1.cell? ⟨w.heap.size, 2, none⟩ = some (.int .i64 i.a) := (by rw [cell_of_row _ _ _ _ _ _ HIR.out]; rfl); have d3 : w1.cell? ⟨w.heap.size, 3, none⟩ = some (.int .i64 i.b) := (by rw [cell_of_row _ _ _ _ _ _ HIR.out]; rfl); have d4 : w1.cell? ⟨w.heap.size, 4, none⟩ = some (.int .i64 i.imm) := (by rw [cell_of_row _ _ _ _ _ _ HIR.out]; rfl); have d5 : w1.cell? ⟨w.heap.size, 5, none⟩ = some (.int .i64 i.csr) := (by rw [cell_of_row _ _ _ _ _ _ HIR.out]; rfl); have d6 : w1.cell? ⟨w.heap.size, 6, none⟩ = some (.bool true) := (by rw [cell_of_row _ _ _ _ _ _ HIR.out]; rfl); have d7 : w1.cell? ⟨w.heap.size, 7, none⟩ = some (.bool i.rl) := (by rw [cell_of_row _ _ _ _ _ _ HIR.out]; rfl); clear hb1)
    | (go_at_call 61; (with_reducible refine (Hrd.out _).mono ?_); rintro e w3 ⟨rfl, rfl⟩)
    | (go_at_call 61; (with_reducible refine (Ha.out _).mono ?_); rintro e w3 ⟨rfl, rfl⟩)
    | (go_at_call 61; (with_reducible refine (Hb.out _).mono ?_); rintro e w3 ⟨rfl, rfl⟩)
    | (go_at_call 61; (with_reducible refine (Hcsr.out _).mono ?_); rintro e w3 ⟨rfl, rfl⟩)
    | (go_at_call 61; (with_reducible refine (Hord.out _).mono ?_); rintro e w3 ⟨rfl, rfl⟩)
    | (go_at_call 50; (with_reducible refine (refForm_10 _).mono ?_); rintro e w3 ⟨rfl, rfl⟩))
  go_ret
  exact ⟨rfl, HB1.out.alloc HB1.out.size _⟩

set_option maxHeartbeats 2000000 in
theorem right_10_rl (op : Nat) (h1 : 1 ≤ op) (h2 : op ≤ 113) (hk : frmT op = 10) (i : Ins) (hop : i.op = op) (rdl : ¬ i.rd < 0) (rdh : ¬ 31 < i.rd) (al : ¬ i.a < 0) (ah : ¬ 31 < i.a) (bl : ¬ i.b < 0) (bh : ¬ 31 < i.b) (csrl : ¬ i.csr < 0) (csrh : ¬ 4095 < i.csr) (zrd : (i.rd != 0) = false) (za : (i.a != 0) = false) (zb : (i.b != 0) = false) (zcsr : (i.csr != 0) = false) (zaq : i.aq = false) (zrl : i.rl = true) (w : World) :
    Calls Tryz.prog 30 #[.agg #[.int .i64 i.op, .int .i64 i.rd, .int .i64 i.a, .int .i64 i.b, .int .i64 i.imm, .int .i64 i.csr, .bool i.aq, .bool i.rl]] w fun e w' => e = .returned (.bool (false)) ∧ Below w.heap.size w w' := by
  have HR : Hid (∀ w, Calls Tryz.prog 31 #[.int .i64 i.op] w fun e w' => e = .returned (.agg #[.string (nameT op), .int .u32 (mskT op), .int .u32 (matT op), .int .u8 78]) ∧ Below w.heap.size w w') := Lib.hid fun w => by rw [hop]; have h := refRow_any op h1 h2 w; rw [hk] at h; exact h
  have Hrd : Hid (∀ w, Calls Tryz.prog 61 #[.int .u8 78, .string ⟨#[85, 74, 73, 72, 87, 82, 76, 65, 67, 90, 86]⟩] w fun e w' => e = .returned (.bool false) ∧ w = w') := Lib.hid fun w => has_rd 10 (by omega) w
  have Ha : Hid (∀ w, Calls Tryz.prog 61 #[.int .u8 78, .string ⟨#[73, 72, 87, 66, 83, 70, 82, 76, 65, 67, 86]⟩] w fun e w' => e = .returned (.bool false) ∧ w = w') := Lib.hid fun w => has_a 10 (by omega) w
  have Hb : Hid (∀ w, Calls Tryz.prog 61 #[.int .u8 78, .string ⟨#[66, 83, 70, 82, 65]⟩] w fun e w' => e = .returned (.bool false) ∧ w = w') := Lib.hid fun w => has_b 10 (by omega) w
  have Hcsr : Hid (∀ w, Calls Tryz.prog 61 #[.int .u8 78, .string ⟨#[67, 90]⟩] w fun e w' => e = .returned (.bool false) ∧ w = w') := Lib.hid fun w => has_csr 10 (by omega) w
  have Hord : Hid (∀ w, Calls Tryz.prog 61 #[.int .u8 78, .string ⟨#[76, 65]⟩] w fun e w' => e = .returned (.bool false) ∧ w = w') := Lib.hid fun w => has_ord 10 (by omega) w
  have o1 : ¬ i.op < 1 := by omega
  have o2 : ¬ 113 < i.op := by omega
  clear h1 h2 hop hk
  generalize nameT op = nm at *
  generalize (mskT op : Int) = mk at *
  generalize (matT op : Int) = mt at *
  go_enter Tryz.func30, Tryz.ntmps30
  go_wp2_with (first
    | (go_at_call 31; (with_reducible refine (HR.out _).mono ?_); rintro e1 w1 ⟨rfl, hb1⟩; have HB1 : Hid (Below w.heap.size w w1) := Lib.hid (((Below.refl _ _).alloc (Nat.le_refl _) _).trans (hb1.mono (by simp))); have hs1 : w.heap.size < w1.heap.size := (by have := hb1.size; simp at this; omega); have HIR : Hid (w1.heap[w.heap.size]? = some (.cells #[.int .i64 i.op, .int .i64 i.rd, .int .i64 i.a, .int .i64 i.b, .int .i64 i.imm, .int .i64 i.csr, .bool false, .bool true] 23 (0, 0))) := Lib.hid ((hb1.block _ (by simp)).trans (heap_alloc_new w _)); have d0 : w1.cell? ⟨w.heap.size, 0, none⟩ = some (.int .i64 i.op) := (by rw [cell_of_row _ _ _ _ _ _ HIR.out]; rfl); have d1 : w1.cell? ⟨w.heap.size, 1, none⟩ = some (.int .i64 i.rd) := (by rw [cell_of_row _ _ _ _ _ _ HIR.out]; rfl); have d2 : w1.cell? ⟨w.heap.size, 2, none⟩ = some (.int .i64 i.a) := (by rw [cell_of_row _ _ _ _ _ _ HIR.out]; rfl); have d3 : w1.cell? ⟨w.heap.size, 3, none⟩ = some (.int .i64 i.b) := (by rw [cell_of_row _ _ _ _ _ _ HIR.out]; rfl); have d4 : w1.cell? ⟨w.heap.size, 4, none⟩ = some (.int .i64 i.imm) := (by rw [cell_of_row _ _ _ _ _ _ HIR.out]; rfl); have d5 : w1.cell? ⟨w.heap.size, 5, none⟩ = some (.int .i64 i.csr) := (by rw [cell_of_row _ _ _ _ _ _ HIR.out]; rfl); have d6 : w1.cell? ⟨w.heap.size, 6, none⟩ = some (.bool false) := (by rw [cell_of_row _ _ _ _ _ _ HIR.out]; rfl); have d7 : w1.cell? ⟨w.heap.size, 7, none⟩ = some (.bool true) := (by rw [cell_of_row _ _ _ _ _ _ HIR.out]; rfl); clear hb1)
    | (go_at_call 61; (with_reducible refine (Hrd.out _).mono ?_); rintro e w3 ⟨rfl, rfl⟩)
    | (go_at_call 61; (with_reducible refine (Ha.out _).mono ?_); rintro e w3 ⟨rfl, rfl⟩)
    | (go_at_call 61; (with_reducible refine (Hb.out _).mono ?_); rintro e w3 ⟨rfl, rfl⟩)
    | (go_at_call 61; (with_reducible refine (Hcsr.out _).mono ?_); rintro e w3 ⟨rfl, rfl⟩)
    | (go_at_call 61; (with_reducible refine (Hord.out _).mono ?_); rintro e w3 ⟨rfl, rfl⟩)
    | (go_at_call 50; (with_reducible refine (refForm_10 _).mono ?_); rintro e w3 ⟨rfl, rfl⟩))
  go_ret
  exact ⟨rfl, HB1.out.alloc HB1.out.size _⟩

set_option maxHeartbeats 2000000 in
theorem right_10_end (op : Nat) (h1 : 1 ≤ op) (h2 : op ≤ 113) (hk : frmT op = 10) (i : Ins) (hop : i.op = op) (rdl : ¬ i.rd < 0) (rdh : ¬ 31 < i.rd) (al : ¬ i.a < 0) (ah : ¬ 31 < i.a) (bl : ¬ i.b < 0) (bh : ¬ 31 < i.b) (csrl : ¬ i.csr < 0) (csrh : ¬ 4095 < i.csr) (zrd : (i.rd != 0) = false) (za : (i.a != 0) = false) (zb : (i.b != 0) = false) (zcsr : (i.csr != 0) = false) (zaq : i.aq = false) (zrl : i.rl = false) (w : World) :
    Calls Tryz.prog 30 #[.agg #[.int .i64 i.op, .int .i64 i.rd, .int .i64 i.a, .int .i64 i.b, .int .i64 i.imm, .int .i64 i.csr, .bool i.aq, .bool i.rl]] w fun e w' => e = .returned (.bool (i.imm == 0)) ∧ Below w.heap.size w w' := by
  have HR : Hid (∀ w, Calls Tryz.prog 31 #[.int .i64 i.op] w fun e w' => e = .returned (.agg #[.string (nameT op), .int .u32 (mskT op), .int .u32 (matT op), .int .u8 78]) ∧ Below w.heap.size w w') := Lib.hid fun w => by rw [hop]; have h := refRow_any op h1 h2 w; rw [hk] at h; exact h
  have Hrd : Hid (∀ w, Calls Tryz.prog 61 #[.int .u8 78, .string ⟨#[85, 74, 73, 72, 87, 82, 76, 65, 67, 90, 86]⟩] w fun e w' => e = .returned (.bool false) ∧ w = w') := Lib.hid fun w => has_rd 10 (by omega) w
  have Ha : Hid (∀ w, Calls Tryz.prog 61 #[.int .u8 78, .string ⟨#[73, 72, 87, 66, 83, 70, 82, 76, 65, 67, 86]⟩] w fun e w' => e = .returned (.bool false) ∧ w = w') := Lib.hid fun w => has_a 10 (by omega) w
  have Hb : Hid (∀ w, Calls Tryz.prog 61 #[.int .u8 78, .string ⟨#[66, 83, 70, 82, 65]⟩] w fun e w' => e = .returned (.bool false) ∧ w = w') := Lib.hid fun w => has_b 10 (by omega) w
  have Hcsr : Hid (∀ w, Calls Tryz.prog 61 #[.int .u8 78, .string ⟨#[67, 90]⟩] w fun e w' => e = .returned (.bool false) ∧ w = w') := Lib.hid fun w => has_csr 10 (by omega) w
  have Hord : Hid (∀ w, Calls Tryz.prog 61 #[.int .u8 78, .string ⟨#[76, 65]⟩] w fun e w' => e = .returned (.bool false) ∧ w = w') := Lib.hid fun w => has_ord 10 (by omega) w
  have o1 : ¬ i.op < 1 := by omega
  have o2 : ¬ 113 < i.op := by omega
  clear h1 h2 hop hk
  generalize nameT op = nm at *
  generalize (mskT op : Int) = mk at *
  generalize (matT op : Int) = mt at *
  go_enter Tryz.func30, Tryz.ntmps30
  go_wp2_with (first
    | (go_at_call 31; (with_reducible refine (HR.out _).mono ?_); rintro e1 w1 ⟨rfl, hb1⟩; have HB1 : Hid (Below w.heap.size w w1) := Lib.hid (((Below.refl _ _).alloc (Nat.le_refl _) _).trans (hb1.mono (by simp))); have hs1 : w.heap.size < w1.heap.size := (by have := hb1.size; simp at this; omega); have HIR : Hid (w1.heap[w.heap.size]? = some (.cells #[.int .i64 i.op, .int .i64 i.rd, .int .i64 i.a, .int .i64 i.b, .int .i64 i.imm, .int .i64 i.csr, .bool false, .bool false] 23 (0, 0))) := Lib.hid ((hb1.block _ (by simp)).trans (heap_alloc_new w _)); have d0 : w1.cell? ⟨w.heap.size, 0, none⟩ = some (.int .i64 i.op) := (by rw [cell_of_row _ _ _ _ _ _ HIR.out]; rfl); have d1 : w1.cell? ⟨w.heap.size, 1, none⟩ = some (.int .i64 i.rd) := (by rw [cell_of_row _ _ _ _ _ _ HIR.out]; rfl); have d2 : w1.cell? ⟨w.heap.size, 2, none⟩ = some (.int .i64 i.a) := (by rw [cell_of_row _ _ _ _ _ _ HIR.out]; rfl); have d3 : w1.cell? ⟨w.heap.size, 3, none⟩ = some (.int .i64 i.b) := (by rw [cell_of_row _ _ _ _ _ _ HIR.out]; rfl); have d4 : w1.cell? ⟨w.heap.size, 4, none⟩ = some (.int .i64 i.imm) := (by rw [cell_of_row _ _ _ _ _ _ HIR.out]; rfl); have d5 : w1.cell? ⟨w.heap.size, 5, none⟩ = some (.int .i64 i.csr) := (by rw [cell_of_row _ _ _ _ _ _ HIR.out]; rfl); have d6 : w1.cell? ⟨w.heap.size, 6, none⟩ = some (.bool false) := (by rw [cell_of_row _ _ _ _ _ _ HIR.out]; rfl); have d7 : w1.cell? ⟨w.heap.size, 7, none⟩ = some (.bool false) := (by rw [cell_of_row _ _ _ _ _ _ HIR.out]; rfl); clear hb1)
    | (go_at_call 61; (with_reducible refine (Hrd.out _).mono ?_); rintro e w3 ⟨rfl, rfl⟩)
    | (go_at_call 61; (with_reducible refine (Ha.out _).mono ?_); rintro e w3 ⟨rfl, rfl⟩)
    | (go_at_call 61; (with_reducible refine (Hb.out _).mono ?_); rintro e w3 ⟨rfl, rfl⟩)
    | (go_at_call 61; (with_reducible refine (Hcsr.out _).mono ?_); rintro e w3 ⟨rfl, rfl⟩)
    | (go_at_call 61; (with_reducible refine (Hord.out _).mono ?_); rintro e w3 ⟨rfl, rfl⟩)
    | (go_at_call 50; (with_reducible refine (refForm_10 _).mono ?_); rintro e w3 ⟨rfl, rfl⟩))
  go_ret
  exact ⟨rfl, HB1.out.alloc HB1.out.size _⟩

set_option maxHeartbeats 2000000 in
theorem right_11_rd (op : Nat) (h1 : 1 ≤ op) (h2 : op ≤ 113) (hk : frmT op = 11) (i : Ins) (hop : i.op = op) (rdl : ¬ i.rd < 0) (rdh : ¬ 31 < i.rd) (al : ¬ i.a < 0) (ah : ¬ 31 < i.a) (bl : ¬ i.b < 0) (bh : ¬ 31 < i.b) (csrl : ¬ i.csr < 0) (csrh : ¬ 4095 < i.csr) (zrd : (i.rd != 0) = true) (w : World) :
    Calls Tryz.prog 30 #[.agg #[.int .i64 i.op, .int .i64 i.rd, .int .i64 i.a, .int .i64 i.b, .int .i64 i.imm, .int .i64 i.csr, .bool i.aq, .bool i.rl]] w fun e w' => e = .returned (.bool (false)) ∧ Below w.heap.size w w' := by
  have HR : Hid (∀ w, Calls Tryz.prog 31 #[.int .i64 i.op] w fun e w' => e = .returned (.agg #[.string (nameT op), .int .u32 (mskT op), .int .u32 (matT op), .int .u8 70]) ∧ Below w.heap.size w w') := Lib.hid fun w => by rw [hop]; have h := refRow_any op h1 h2 w; rw [hk] at h; exact h
  have Hrd : Hid (∀ w, Calls Tryz.prog 61 #[.int .u8 70, .string ⟨#[85, 74, 73, 72, 87, 82, 76, 65, 67, 90, 86]⟩] w fun e w' => e = .returned (.bool false) ∧ w = w') := Lib.hid fun w => has_rd 11 (by omega) w
  have Ha : Hid (∀ w, Calls Tryz.prog 61 #[.int .u8 70, .string ⟨#[73, 72, 87, 66, 83, 70, 82, 76, 65, 67, 86]⟩] w fun e w' => e = .returned (.bool true) ∧ w = w') := Lib.hid fun w => has_a 11 (by omega) w
  have Hb : Hid (∀ w, Calls Tryz.prog 61 #[.int .u8 70, .string ⟨#[66, 83, 70, 82, 65]⟩] w fun e w' => e = .returned (.bool true) ∧ w = w') := Lib.hid fun w => has_b 11 (by omega) w
  have Hcsr : Hid (∀ w, Calls Tryz.prog 61 #[.int .u8 70, .string ⟨#[67, 90]⟩] w fun e w' => e = .returned (.bool false) ∧ w = w') := Lib.hid fun w => has_csr 11 (by omega) w
  have Hord : Hid (∀ w, Calls Tryz.prog 61 #[.int .u8 70, .string ⟨#[76, 65]⟩] w fun e w' => e = .returned (.bool false) ∧ w = w') := Lib.hid fun w => has_ord 11 (by omega) w
  have o1 : ¬ i.op < 1 := by omega
  have o2 : ¬ 113 < i.op := by omega
  clear h1 h2 hop hk
  generalize nameT op = nm at *
  generalize (mskT op : Int) = mk at *
  generalize (matT op : Int) = mt at *
  go_enter Tryz.func30, Tryz.ntmps30
  go_wp2_with (first
    | (go_at_call 31; (with_reducible refine (HR.out _).mono ?_); rintro e1 w1 ⟨rfl, hb1⟩; have HB1 : Hid (Below w.heap.size w w1) := Lib.hid (((Below.refl _ _).alloc (Nat.le_refl _) _).trans (hb1.mono (by simp))); have hs1 : w.heap.size < w1.heap.size := (by have := hb1.size; simp at this; omega); have HIR : Hid (w1.heap[w.heap.size]? = some (.cells #[.int .i64 i.op, .int .i64 i.rd, .int .i64 i.a, .int .i64 i.b, .int .i64 i.imm, .int .i64 i.csr, .bool i.aq, .bool i.rl] 23 (0, 0))) := Lib.hid ((hb1.block _ (by simp)).trans (heap_alloc_new w _)); have d0 : w1.cell? ⟨w.heap.size, 0, none⟩ = some (.int .i64 i.op) := (by rw [cell_of_row _ _ _ _ _ _ HIR.out]; rfl); have d1 : w1.cell? ⟨w.heap.size, 1, none⟩ = some (.int .i64 i.rd) := (by rw [cell_of_row _ _ _ _ _ _ HIR.out]; rfl); have d2 : w1.cell? ⟨w.heap.size, 2, none⟩ = some (.int .i64 i.a) := (by rw [cell_of_row _ _ _ _ _ _ HIR.out]; rfl); have d3 : w1.cell? ⟨w.heap.size, 3, none⟩ = some (.int .i64 i.b) := (by rw [cell_of_row _ _ _ _ _ _ HIR.out]; rfl); have d4 : w1.cell? ⟨w.heap.size, 4, none⟩ = some (.int .i64 i.imm) := (by rw [cell_of_row _ _ _ _ _ _ HIR.out]; rfl); have d5 : w1.cell? ⟨w.heap.size, 5, none⟩ = some (.int .i64 i.csr) := (by rw [cell_of_row _ _ _ _ _ _ HIR.out]; rfl); have d6 : w1.cell? ⟨w.heap.size, 6, none⟩ = some (.bool i.aq) := (by rw [cell_of_row _ _ _ _ _ _ HIR.out]; rfl); have d7 : w1.cell? ⟨w.heap.size, 7, none⟩ = some (.bool i.rl) := (by rw [cell_of_row _ _ _ _ _ _ HIR.out]; rfl); clear hb1)
    | (go_at_call 61; (with_reducible refine (Hrd.out _).mono ?_); rintro e w3 ⟨rfl, rfl⟩)
    | (go_at_call 61; (with_reducible refine (Ha.out _).mono ?_); rintro e w3 ⟨rfl, rfl⟩)
    | (go_at_call 61; (with_reducible refine (Hb.out _).mono ?_); rintro e w3 ⟨rfl, rfl⟩)
    | (go_at_call 61; (with_reducible refine (Hcsr.out _).mono ?_); rintro e w3 ⟨rfl, rfl⟩)
    | (go_at_call 61; (with_reducible refine (Hord.out _).mono ?_); rintro e w3 ⟨rfl, rfl⟩)
    | (go_at_call 50; (with_reducible refine (refForm_11 _).mono ?_); rintro e w3 ⟨rfl, rfl⟩))
  go_ret
  exact ⟨rfl, HB1.out.alloc HB1.out.size _⟩

set_option maxHeartbeats 2000000 in
theorem right_11_csr (op : Nat) (h1 : 1 ≤ op) (h2 : op ≤ 113) (hk : frmT op = 11) (i : Ins) (hop : i.op = op) (rdl : ¬ i.rd < 0) (rdh : ¬ 31 < i.rd) (al : ¬ i.a < 0) (ah : ¬ 31 < i.a) (bl : ¬ i.b < 0) (bh : ¬ 31 < i.b) (csrl : ¬ i.csr < 0) (csrh : ¬ 4095 < i.csr) (zrd : (i.rd != 0) = false) (zcsr : (i.csr != 0) = true) (w : World) :
    Calls Tryz.prog 30 #[.agg #[.int .i64 i.op, .int .i64 i.rd, .int .i64 i.a, .int .i64 i.b, .int .i64 i.imm, .int .i64 i.csr, .bool i.aq, .bool i.rl]] w fun e w' => e = .returned (.bool (false)) ∧ Below w.heap.size w w' := by
  have HR : Hid (∀ w, Calls Tryz.prog 31 #[.int .i64 i.op] w fun e w' => e = .returned (.agg #[.string (nameT op), .int .u32 (mskT op), .int .u32 (matT op), .int .u8 70]) ∧ Below w.heap.size w w') := Lib.hid fun w => by rw [hop]; have h := refRow_any op h1 h2 w; rw [hk] at h; exact h
  have Hrd : Hid (∀ w, Calls Tryz.prog 61 #[.int .u8 70, .string ⟨#[85, 74, 73, 72, 87, 82, 76, 65, 67, 90, 86]⟩] w fun e w' => e = .returned (.bool false) ∧ w = w') := Lib.hid fun w => has_rd 11 (by omega) w
  have Ha : Hid (∀ w, Calls Tryz.prog 61 #[.int .u8 70, .string ⟨#[73, 72, 87, 66, 83, 70, 82, 76, 65, 67, 86]⟩] w fun e w' => e = .returned (.bool true) ∧ w = w') := Lib.hid fun w => has_a 11 (by omega) w
  have Hb : Hid (∀ w, Calls Tryz.prog 61 #[.int .u8 70, .string ⟨#[66, 83, 70, 82, 65]⟩] w fun e w' => e = .returned (.bool true) ∧ w = w') := Lib.hid fun w => has_b 11 (by omega) w
  have Hcsr : Hid (∀ w, Calls Tryz.prog 61 #[.int .u8 70, .string ⟨#[67, 90]⟩] w fun e w' => e = .returned (.bool false) ∧ w = w') := Lib.hid fun w => has_csr 11 (by omega) w
  have Hord : Hid (∀ w, Calls Tryz.prog 61 #[.int .u8 70, .string ⟨#[76, 65]⟩] w fun e w' => e = .returned (.bool false) ∧ w = w') := Lib.hid fun w => has_ord 11 (by omega) w
  have o1 : ¬ i.op < 1 := by omega
  have o2 : ¬ 113 < i.op := by omega
  clear h1 h2 hop hk
  generalize nameT op = nm at *
  generalize (mskT op : Int) = mk at *
  generalize (matT op : Int) = mt at *
  go_enter Tryz.func30, Tryz.ntmps30
  go_wp2_with (first
    | (go_at_call 31; (with_reducible refine (HR.out _).mono ?_); rintro e1 w1 ⟨rfl, hb1⟩; have HB1 : Hid (Below w.heap.size w w1) := Lib.hid (((Below.refl _ _).alloc (Nat.le_refl _) _).trans (hb1.mono (by simp))); have hs1 : w.heap.size < w1.heap.size := (by have := hb1.size; simp at this; omega); have HIR : Hid (w1.heap[w.heap.size]? = some (.cells #[.int .i64 i.op, .int .i64 i.rd, .int .i64 i.a, .int .i64 i.b, .int .i64 i.imm, .int .i64 i.csr, .bool i.aq, .bool i.rl] 23 (0, 0))) := Lib.hid ((hb1.block _ (by simp)).trans (heap_alloc_new w _)); have d0 : w1.cell? ⟨w.heap.size, 0, none⟩ = some (.int .i64 i.op) := (by rw [cell_of_row _ _ _ _ _ _ HIR.out]; rfl); have d1 : w1.cell? ⟨w.heap.size, 1, none⟩ = some (.int .i64 i.rd) := (by rw [cell_of_row _ _ _ _ _ _ HIR.out]; rfl); have d2 : w1.cell? ⟨w.heap.size, 2, none⟩ = some (.int .i64 i.a) := (by rw [cell_of_row _ _ _ _ _ _ HIR.out]; rfl); have d3 : w1.cell? ⟨w.heap.size, 3, none⟩ = some (.int .i64 i.b) := (by rw [cell_of_row _ _ _ _ _ _ HIR.out]; rfl); have d4 : w1.cell? ⟨w.heap.size, 4, none⟩ = some (.int .i64 i.imm) := (by rw [cell_of_row _ _ _ _ _ _ HIR.out]; rfl); have d5 : w1.cell? ⟨w.heap.size, 5, none⟩ = some (.int .i64 i.csr) := (by rw [cell_of_row _ _ _ _ _ _ HIR.out]; rfl); have d6 : w1.cell? ⟨w.heap.size, 6, none⟩ = some (.bool i.aq) := (by rw [cell_of_row _ _ _ _ _ _ HIR.out]; rfl); have d7 : w1.cell? ⟨w.heap.size, 7, none⟩ = some (.bool i.rl) := (by rw [cell_of_row _ _ _ _ _ _ HIR.out]; rfl); clear hb1)
    | (go_at_call 61; (with_reducible refine (Hrd.out _).mono ?_); rintro e w3 ⟨rfl, rfl⟩)
    | (go_at_call 61; (with_reducible refine (Ha.out _).mono ?_); rintro e w3 ⟨rfl, rfl⟩)
    | (go_at_call 61; (with_reducible refine (Hb.out _).mono ?_); rintro e w3 ⟨rfl, rfl⟩)
    | (go_at_call 61; (with_reducible refine (Hcsr.out _).mono ?_); rintro e w3 ⟨rfl, rfl⟩)
    | (go_at_call 61; (with_reducible refine (Hord.out _).mono ?_); rintro e w3 ⟨rfl, rfl⟩)
    | (go_at_call 50; (with_reducible refine (refForm_11 _).mono ?_); rintro e w3 ⟨rfl, rfl⟩))
  go_ret
  exact ⟨rfl, HB1.out.alloc HB1.out.size _⟩

set_option maxHeartbeats 2000000 in
theorem right_11_aq (op : Nat) (h1 : 1 ≤ op) (h2 : op ≤ 113) (hk : frmT op = 11) (i : Ins) (hop : i.op = op) (rdl : ¬ i.rd < 0) (rdh : ¬ 31 < i.rd) (al : ¬ i.a < 0) (ah : ¬ 31 < i.a) (bl : ¬ i.b < 0) (bh : ¬ 31 < i.b) (csrl : ¬ i.csr < 0) (csrh : ¬ 4095 < i.csr) (zrd : (i.rd != 0) = false) (zcsr : (i.csr != 0) = false) (zaq : i.aq = true) (w : World) :
    Calls Tryz.prog 30 #[.agg #[.int .i64 i.op, .int .i64 i.rd, .int .i64 i.a, .int .i64 i.b, .int .i64 i.imm, .int .i64 i.csr, .bool i.aq, .bool i.rl]] w fun e w' => e = .returned (.bool (false)) ∧ Below w.heap.size w w' := by
  have HR : Hid (∀ w, Calls Tryz.prog 31 #[.int .i64 i.op] w fun e w' => e = .returned (.agg #[.string (nameT op), .int .u32 (mskT op), .int .u32 (matT op), .int .u8 70]) ∧ Below w.heap.size w w') := Lib.hid fun w => by rw [hop]; have h := refRow_any op h1 h2 w; rw [hk] at h; exact h
  have Hrd : Hid (∀ w, Calls Tryz.prog 61 #[.int .u8 70, .string ⟨#[85, 74, 73, 72, 87, 82, 76, 65, 67, 90, 86]⟩] w fun e w' => e = .returned (.bool false) ∧ w = w') := Lib.hid fun w => has_rd 11 (by omega) w
  have Ha : Hid (∀ w, Calls Tryz.prog 61 #[.int .u8 70, .string ⟨#[73, 72, 87, 66, 83, 70, 82, 76, 65, 67, 86]⟩] w fun e w' => e = .returned (.bool true) ∧ w = w') := Lib.hid fun w => has_a 11 (by omega) w
  have Hb : Hid (∀ w, Calls Tryz.prog 61 #[.int .u8 70, .string ⟨#[66, 83, 70, 82, 65]⟩] w fun e w' => e = .returned (.bool true) ∧ w = w') := Lib.hid fun w => has_b 11 (by omega) w
  have Hcsr : Hid (∀ w, Calls Tryz.prog 61 #[.int .u8 70, .string ⟨#[67, 90]⟩] w fun e w' => e = .returned (.bool false) ∧ w = w') := Lib.hid fun w => has_csr 11 (by omega) w
  have Hord : Hid (∀ w, Calls Tryz.prog 61 #[.int .u8 70, .string ⟨#[76, 65]⟩] w fun e w' => e = .returned (.bool false) ∧ w = w') := Lib.hid fun w => has_ord 11 (by omega) w
  have o1 : ¬ i.op < 1 := by omega
  have o2 : ¬ 113 < i.op := by omega
  clear h1 h2 hop hk
  generalize nameT op = nm at *
  generalize (mskT op : Int) = mk at *
  generalize (matT op : Int) = mt at *
  go_enter Tryz.func30, Tryz.ntmps30
  go_wp2_with (first
    | (go_at_call 31; (with_reducible refine (HR.out _).mono ?_); rintro e1 w1 ⟨rfl, hb1⟩; have HB1 : Hid (Below w.heap.size w w1) := Lib.hid (((Below.refl _ _).alloc (Nat.le_refl _) _).trans (hb1.mono (by simp))); have hs1 : w.heap.size < w1.heap.size := (by have := hb1.size; simp at this; omega); have HIR : Hid (w1.heap[w.heap.size]? = some (.cells #[.int .i64 i.op, .int .i64 i.rd, .int .i64 i.a, .int .i64 i.b, .int .i64 i.imm, .int .i64 i.csr, .bool true, .bool i.rl] 23 (0, 0))) := Lib.hid ((hb1.block _ (by simp)).trans (heap_alloc_new w _)); have d0 : w1.cell? ⟨w.heap.size, 0, none⟩ = some (.int .i64 i.op) := (by rw [cell_of_row _ _ _ _ _ _ HIR.out]; rfl); have d1 : w1.cell? ⟨w.heap.size, 1, none⟩ = some (.int .i64 i.rd) := (by rw [cell_of_row _ _ _ _ _ _ HIR.out]; rfl); have d2 : w1.cell? ⟨w.heap.size, 2, none⟩ = some (.int .i64 i.a) := (by rw [cell_of_row _ _ _ _ _ _ HIR.out]; rfl); have d3 : w1.cell? ⟨w.heap.size, 3, none⟩ = some (.int .i64 i.b) := (by rw [cell_of_row _ _ _ _ _ _ HIR.out]; rfl); have d4 : w1.cell? ⟨w.heap.size, 4, none⟩ = some (.int .i64 i.imm) := (by rw [cell_of_row _ _ _ _ _ _ HIR.out]; rfl); have d5 : w1.cell? ⟨w.heap.size, 5, none⟩ = some (.int .i64 i.csr) := (by rw [cell_of_row _ _ _ _ _ _ HIR.out]; rfl); have d6 : w1.cell? ⟨w.heap.size, 6, none⟩ = some (.bool true) := (by rw [cell_of_row _ _ _ _ _ _ HIR.out]; rfl); have d7 : w1.cell? ⟨w.heap.size, 7, none⟩ = some (.bool i.rl) := (by rw [cell_of_row _ _ _ _ _ _ HIR.out]; rfl); clear hb1)
    | (go_at_call 61; (with_reducible refine (Hrd.out _).mono ?_); rintro e w3 ⟨rfl, rfl⟩)
    | (go_at_call 61; (with_reducible refine (Ha.out _).mono ?_); rintro e w3 ⟨rfl, rfl⟩)
    | (go_at_call 61; (with_reducible refine (Hb.out _).mono ?_); rintro e w3 ⟨rfl, rfl⟩)
    | (go_at_call 61; (with_reducible refine (Hcsr.out _).mono ?_); rintro e w3 ⟨rfl, rfl⟩)
    | (go_at_call 61; (with_reducible refine (Hord.out _).mono ?_); rintro e w3 ⟨rfl, rfl⟩)
    | (go_at_call 50; (with_reducible refine (refForm_11 _).mono ?_); rintro e w3 ⟨rfl, rfl⟩))
  go_ret
  exact ⟨rfl, HB1.out.alloc HB1.out.size _⟩

set_option maxHeartbeats 2000000 in
theorem right_11_rl (op : Nat) (h1 : 1 ≤ op) (h2 : op ≤ 113) (hk : frmT op = 11) (i : Ins) (hop : i.op = op) (rdl : ¬ i.rd < 0) (rdh : ¬ 31 < i.rd) (al : ¬ i.a < 0) (ah : ¬ 31 < i.a) (bl : ¬ i.b < 0) (bh : ¬ 31 < i.b) (csrl : ¬ i.csr < 0) (csrh : ¬ 4095 < i.csr) (zrd : (i.rd != 0) = false) (zcsr : (i.csr != 0) = false) (zaq : i.aq = false) (zrl : i.rl = true) (w : World) :
    Calls Tryz.prog 30 #[.agg #[.int .i64 i.op, .int .i64 i.rd, .int .i64 i.a, .int .i64 i.b, .int .i64 i.imm, .int .i64 i.csr, .bool i.aq, .bool i.rl]] w fun e w' => e = .returned (.bool (false)) ∧ Below w.heap.size w w' := by
  have HR : Hid (∀ w, Calls Tryz.prog 31 #[.int .i64 i.op] w fun e w' => e = .returned (.agg #[.string (nameT op), .int .u32 (mskT op), .int .u32 (matT op), .int .u8 70]) ∧ Below w.heap.size w w') := Lib.hid fun w => by rw [hop]; have h := refRow_any op h1 h2 w; rw [hk] at h; exact h
  have Hrd : Hid (∀ w, Calls Tryz.prog 61 #[.int .u8 70, .string ⟨#[85, 74, 73, 72, 87, 82, 76, 65, 67, 90, 86]⟩] w fun e w' => e = .returned (.bool false) ∧ w = w') := Lib.hid fun w => has_rd 11 (by omega) w
  have Ha : Hid (∀ w, Calls Tryz.prog 61 #[.int .u8 70, .string ⟨#[73, 72, 87, 66, 83, 70, 82, 76, 65, 67, 86]⟩] w fun e w' => e = .returned (.bool true) ∧ w = w') := Lib.hid fun w => has_a 11 (by omega) w
  have Hb : Hid (∀ w, Calls Tryz.prog 61 #[.int .u8 70, .string ⟨#[66, 83, 70, 82, 65]⟩] w fun e w' => e = .returned (.bool true) ∧ w = w') := Lib.hid fun w => has_b 11 (by omega) w
  have Hcsr : Hid (∀ w, Calls Tryz.prog 61 #[.int .u8 70, .string ⟨#[67, 90]⟩] w fun e w' => e = .returned (.bool false) ∧ w = w') := Lib.hid fun w => has_csr 11 (by omega) w
  have Hord : Hid (∀ w, Calls Tryz.prog 61 #[.int .u8 70, .string ⟨#[76, 65]⟩] w fun e w' => e = .returned (.bool false) ∧ w = w') := Lib.hid fun w => has_ord 11 (by omega) w
  have o1 : ¬ i.op < 1 := by omega
  have o2 : ¬ 113 < i.op := by omega
  clear h1 h2 hop hk
  generalize nameT op = nm at *
  generalize (mskT op : Int) = mk at *
  generalize (matT op : Int) = mt at *
  go_enter Tryz.func30, Tryz.ntmps30
  go_wp2_with (first
    | (go_at_call 31; (with_reducible refine (HR.out _).mono ?_); rintro e1 w1 ⟨rfl, hb1⟩; have HB1 : Hid (Below w.heap.size w w1) := Lib.hid (((Below.refl _ _).alloc (Nat.le_refl _) _).trans (hb1.mono (by simp))); have hs1 : w.heap.size < w1.heap.size := (by have := hb1.size; simp at this; omega); have HIR : Hid (w1.heap[w.heap.size]? = some (.cells #[.int .i64 i.op, .int .i64 i.rd, .int .i64 i.a, .int .i64 i.b, .int .i64 i.imm, .int .i64 i.csr, .bool false, .bool true] 23 (0, 0))) := Lib.hid ((hb1.block _ (by simp)).trans (heap_alloc_new w _)); have d0 : w1.cell? ⟨w.heap.size, 0, none⟩ = some (.int .i64 i.op) := (by rw [cell_of_row _ _ _ _ _ _ HIR.out]; rfl); have d1 : w1.cell? ⟨w.heap.size, 1, none⟩ = some (.int .i64 i.rd) := (by rw [cell_of_row _ _ _ _ _ _ HIR.out]; rfl); have d2 : w1.cell? ⟨w.heap.size, 2, none⟩ = some (.int .i64 i.a) := (by rw [cell_of_row _ _ _ _ _ _ HIR.out]; rfl); have d3 : w1.cell? ⟨w.heap.size, 3, none⟩ = some (.int .i64 i.b) := (by rw [cell_of_row _ _ _ _ _ _ HIR.out]; rfl); have d4 : w1.cell? ⟨w.heap.size, 4, none⟩ = some (.int .i64 i.imm) := (by rw [cell_of_row _ _ _ _ _ _ HIR.out]; rfl); have d5 : w1.cell? ⟨w.heap.size, 5, none⟩ = some (.int .i64 i.csr) := (by rw [cell_of_row _ _ _ _ _ _ HIR.out]; rfl); have d6 : w1.cell? ⟨w.heap.size, 6, none⟩ = some (.bool false) := (by rw [cell_of_row _ _ _ _ _ _ HIR.out]; rfl); have d7 : w1.cell? ⟨w.heap.size, 7, none⟩ = some (.bool true) := (by rw [cell_of_row _ _ _ _ _ _ HIR.out]; rfl); clear hb1)
    | (go_at_call 61; (with_reducible refine (Hrd.out _).mono ?_); rintro e w3 ⟨rfl, rfl⟩)
    | (go_at_call 61; (with_reducible refine (Ha.out _).mono ?_); rintro e w3 ⟨rfl, rfl⟩)
    | (go_at_call 61; (with_reducible refine (Hb.out _).mono ?_); rintro e w3 ⟨rfl, rfl⟩)
    | (go_at_call 61; (with_reducible refine (Hcsr.out _).mono ?_); rintro e w3 ⟨rfl, rfl⟩)
    | (go_at_call 61; (with_reducible refine (Hord.out _).mono ?_); rintro e w3 ⟨rfl, rfl⟩)
    | (go_at_call 50; (with_reducible refine (refForm_11 _).mono ?_); rintro e w3 ⟨rfl, rfl⟩))
  go_ret
  exact ⟨rfl, HB1.out.alloc HB1.out.size _⟩

set_option maxHeartbeats 2000000 in
theorem right_11_end (op : Nat) (h1 : 1 ≤ op) (h2 : op ≤ 113) (hk : frmT op = 11) (i : Ins) (hop : i.op = op) (rdl : ¬ i.rd < 0) (rdh : ¬ 31 < i.rd) (al : ¬ i.a < 0) (ah : ¬ 31 < i.a) (bl : ¬ i.b < 0) (bh : ¬ 31 < i.b) (csrl : ¬ i.csr < 0) (csrh : ¬ 4095 < i.csr) (zrd : (i.rd != 0) = false) (zcsr : (i.csr != 0) = false) (zaq : i.aq = false) (zrl : i.rl = false) (w : World) :
    Calls Tryz.prog 30 #[.agg #[.int .i64 i.op, .int .i64 i.rd, .int .i64 i.a, .int .i64 i.b, .int .i64 i.imm, .int .i64 i.csr, .bool i.aq, .bool i.rl]] w fun e w' => e = .returned (.bool (i.imm == 0)) ∧ Below w.heap.size w w' := by
  have HR : Hid (∀ w, Calls Tryz.prog 31 #[.int .i64 i.op] w fun e w' => e = .returned (.agg #[.string (nameT op), .int .u32 (mskT op), .int .u32 (matT op), .int .u8 70]) ∧ Below w.heap.size w w') := Lib.hid fun w => by rw [hop]; have h := refRow_any op h1 h2 w; rw [hk] at h; exact h
  have Hrd : Hid (∀ w, Calls Tryz.prog 61 #[.int .u8 70, .string ⟨#[85, 74, 73, 72, 87, 82, 76, 65, 67, 90, 86]⟩] w fun e w' => e = .returned (.bool false) ∧ w = w') := Lib.hid fun w => has_rd 11 (by omega) w
  have Ha : Hid (∀ w, Calls Tryz.prog 61 #[.int .u8 70, .string ⟨#[73, 72, 87, 66, 83, 70, 82, 76, 65, 67, 86]⟩] w fun e w' => e = .returned (.bool true) ∧ w = w') := Lib.hid fun w => has_a 11 (by omega) w
  have Hb : Hid (∀ w, Calls Tryz.prog 61 #[.int .u8 70, .string ⟨#[66, 83, 70, 82, 65]⟩] w fun e w' => e = .returned (.bool true) ∧ w = w') := Lib.hid fun w => has_b 11 (by omega) w
  have Hcsr : Hid (∀ w, Calls Tryz.prog 61 #[.int .u8 70, .string ⟨#[67, 90]⟩] w fun e w' => e = .returned (.bool false) ∧ w = w') := Lib.hid fun w => has_csr 11 (by omega) w
  have Hord : Hid (∀ w, Calls Tryz.prog 61 #[.int .u8 70, .string ⟨#[76, 65]⟩] w fun e w' => e = .returned (.bool false) ∧ w = w') := Lib.hid fun w => has_ord 11 (by omega) w
  have o1 : ¬ i.op < 1 := by omega
  have o2 : ¬ 113 < i.op := by omega
  clear h1 h2 hop hk
  generalize nameT op = nm at *
  generalize (mskT op : Int) = mk at *
  generalize (matT op : Int) = mt at *
  go_enter Tryz.func30, Tryz.ntmps30
  go_wp2_with (first
    | (go_at_call 31; (with_reducible refine (HR.out _).mono ?_); rintro e1 w1 ⟨rfl, hb1⟩; have HB1 : Hid (Below w.heap.size w w1) := Lib.hid (((Below.refl _ _).alloc (Nat.le_refl _) _).trans (hb1.mono (by simp))); have hs1 : w.heap.size < w1.heap.size := (by have := hb1.size; simp at this; omega); have HIR : Hid (w1.heap[w.heap.size]? = some (.cells #[.int .i64 i.op, .int .i64 i.rd, .int .i64 i.a, .int .i64 i.b, .int .i64 i.imm, .int .i64 i.csr, .bool false, .bool false] 23 (0, 0))) := Lib.hid ((hb1.block _ (by simp)).trans (heap_alloc_new w _)); have d0 : w1.cell? ⟨w.heap.size, 0, none⟩ = some (.int .i64 i.op) := (by rw [cell_of_row _ _ _ _ _ _ HIR.out]; rfl); have d1 : w1.cell? ⟨w.heap.size, 1, none⟩ = some (.int .i64 i.rd) := (by rw [cell_of_row _ _ _ _ _ _ HIR.out]; rfl); have d2 : w1.cell? ⟨w.heap.size, 2, none⟩ = some (.int .i64 i.a) := (by rw [cell_of_row _ _ _ _ _ _ HIR.out]; rfl); have d3 : w1.cell? ⟨w.heap.size, 3, none⟩ = some (.int .i64 i.b) := (by rw [cell_of_row _ _ _ _ _ _ HIR.out]; rfl); have d4 : w1.cell? ⟨w.heap.size, 4, none⟩ = some (.int .i64 i.imm) := (by rw [cell_of_row _ _ _ _ _ _ HIR.out]; rfl); have d5 : w1.cell? ⟨w.heap.size, 5, none⟩ = some (.int .i64 i.csr) := (by rw [cell_of_row _ _ _ _ _ _ HIR.out]; rfl); have d6 : w1.cell? ⟨w.heap.size, 6, none⟩ = some (.bool false) := (by rw [cell_of_row _ _ _ _ _ _ HIR.out]; rfl); have d7 : w1.cell? ⟨w.heap.size, 7, none⟩ = some (.bool false) := (by rw [cell_of_row _ _ _ _ _ _ HIR.out]; rfl); clear hb1)
    | (go_at_call 61; (with_reducible refine (Hrd.out _).mono ?_); rintro e w3 ⟨rfl, rfl⟩)
    | (go_at_call 61; (with_reducible refine (Ha.out _).mono ?_); rintro e w3 ⟨rfl, rfl⟩)
    | (go_at_call 61; (with_reducible refine (Hb.out _).mono ?_); rintro e w3 ⟨rfl, rfl⟩)
    | (go_at_call 61; (with_reducible refine (Hcsr.out _).mono ?_); rintro e w3 ⟨rfl, rfl⟩)
    | (go_at_call 61; (with_reducible refine (Hord.out _).mono ?_); rintro e w3 ⟨rfl, rfl⟩)
    | (go_at_call 50; (with_reducible refine (refForm_11 _).mono ?_); rintro e w3 ⟨rfl, rfl⟩))
  go_ret
  exact ⟨rfl, HB1.out.alloc HB1.out.size _⟩

set_option maxHeartbeats 2000000 in
theorem right_12_b (op : Nat) (h1 : 1 ≤ op) (h2 : op ≤ 113) (hk : frmT op = 12) (i : Ins) (hop : i.op = op) (rdl : ¬ i.rd < 0) (rdh : ¬ 31 < i.rd) (al : ¬ i.a < 0) (ah : ¬ 31 < i.a) (bl : ¬ i.b < 0) (bh : ¬ 31 < i.b) (csrl : ¬ i.csr < 0) (csrh : ¬ 4095 < i.csr) (zb : (i.b != 0) = true) (w : World) :
    Calls Tryz.prog 30 #[.agg #[.int .i64 i.op, .int .i64 i.rd, .int .i64 i.a, .int .i64 i.b, .int .i64 i.imm, .int .i64 i.csr, .bool i.aq, .bool i.rl]] w fun e w' => e = .returned (.bool (false)) ∧ Below w.heap.size w w' := by
  have HR : Hid (∀ w, Calls Tryz.prog 31 #[.int .i64 i.op] w fun e w' => e = .returned (.agg #[.string (nameT op), .int .u32 (mskT op), .int .u32 (matT op), .int .u8 67]) ∧ Below w.heap.size w w') := Lib.hid fun w => by rw [hop]; have h := refRow_any op h1 h2 w; rw [hk] at h; exact h
  have Hrd : Hid (∀ w, Calls Tryz.prog 61 #[.int .u8 67, .string ⟨#[85, 74, 73, 72, 87, 82, 76, 65, 67, 90, 86]⟩] w fun e w' => e = .returned (.bool true) ∧ w = w') := Lib.hid fun w => has_rd 12 (by omega) w
  have Ha : Hid (∀ w, Calls Tryz.prog 61 #[.int .u8 67, .string ⟨#[73, 72, 87, 66, 83, 70, 82, 76, 65, 67, 86]⟩] w fun e w' => e = .returned (.bool true) ∧ w = w') := Lib.hid fun w => has_a 12 (by omega) w
  have Hb : Hid (∀ w, Calls Tryz.prog 61 #[.int .u8 67, .string ⟨#[66, 83, 70, 82, 65]⟩] w fun e w' => e = .returned (.bool false) ∧ w = w') := Lib.hid fun w => has_b 12 (by omega) w
  have Hcsr : Hid (∀ w, Calls Tryz.prog 61 #[.int .u8 67, .string ⟨#[67, 90]⟩] w fun e w' => e = .returned (.bool true) ∧ w = w') := Lib.hid fun w => has_csr 12 (by omega) w
  have Hord : Hid (∀ w, Calls Tryz.prog 61 #[.int .u8 67, .string ⟨#[76, 65]⟩] w fun e w' => e = .returned (.bool false) ∧ w = w') := Lib.hid fun w => has_ord 12 (by omega) w
  have o1 : ¬ i.op < 1 := by omega
  have o2 : ¬ 113 < i.op := by omega
  clear h1 h2 hop hk
  generalize nameT op = nm at *
  generalize (mskT op : Int) = mk at *
  generalize (matT op : Int) = mt at *
  go_enter Tryz.func30, Tryz.ntmps30
  go_wp2_with (first
    | (go_at_call 31; (with_reducible refine (HR.out _).mono ?_); rintro e1 w1 ⟨rfl, hb1⟩; have HB1 : Hid (Below w.heap.size w w1) := Lib.hid (((Below.refl _ _).alloc (Nat.le_refl _) _).trans (hb1.mono (by simp))); have hs1 : w.heap.size < w1.heap.size := (by have := hb1.size; simp at this; omega); have HIR : Hid (w1.heap[w.heap.size]? = some (.cells #[.int .i64 i.op, .int .i64 i.rd, .int .i64 i.a, .int .i64 i.b, .int .i64 i.imm, .int .i64 i.csr, .bool i.aq, .bool i.rl] 23 (0, 0))) := Lib.hid ((hb1.block _ (by simp)).trans (heap_alloc_new w _)); have d0 : w1.cell? ⟨w.heap.size, 0, none⟩ = some (.int .i64 i.op) := (by rw [cell_of_row _ _ _ _ _ _ HIR.out]; rfl); have d1 : w1.cell? ⟨w.heap.size, 1, none⟩ = some (.int .i64 i.rd) := (by rw [cell_of_row _ _ _ _ _ _ HIR.out]; rfl); have d2 : w1.cell? ⟨w.heap.size, 2, none⟩ = some (.int .i64 i.a) := (by rw [cell_of_row _ _ _ _ _ _ HIR.out]; rfl); have d3 : w1.cell? ⟨w.heap.size, 3, none⟩ = some (.int .i64 i.b) := (by rw [cell_of_row _ _ _ _ _ _ HIR.out]; rfl); have d4 : w1.cell? ⟨w.heap.size, 4, none⟩ = some (.int .i64 i.imm) := (by rw [cell_of_row _ _ _ _ _ _ HIR.out]; rfl); have d5 : w1.cell? ⟨w.heap.size, 5, none⟩ = some (.int .i64 i.csr) := (by rw [cell_of_row _ _ _ _ _ _ HIR.out]; rfl); have d6 : w1.cell? ⟨w.heap.size, 6, none⟩ = some (.bool i.aq) := (by rw [cell_of_row _ _ _ _ _ _ HIR.out]; rfl); have d7 : w1.cell? ⟨w.heap.size, 7, none⟩ = some (.bool i.rl) := (by rw [cell_of_row _ _ _ _ _ _ HIR.out]; rfl); clear hb1)
    | (go_at_call 61; (with_reducible refine (Hrd.out _).mono ?_); rintro e w3 ⟨rfl, rfl⟩)
    | (go_at_call 61; (with_reducible refine (Ha.out _).mono ?_); rintro e w3 ⟨rfl, rfl⟩)
    | (go_at_call 61; (with_reducible refine (Hb.out _).mono ?_); rintro e w3 ⟨rfl, rfl⟩)
    | (go_at_call 61; (with_reducible refine (Hcsr.out _).mono ?_); rintro e w3 ⟨rfl, rfl⟩)
    | (go_at_call 61; (with_reducible refine (Hord.out _).mono ?_); rintro e w3 ⟨rfl, rfl⟩)
    | (go_at_call 50; (with_reducible refine (refForm_12 _).mono ?_); rintro e w3 ⟨rfl, rfl⟩))
  go_ret
  exact ⟨rfl, HB1.out.alloc HB1.out.size _⟩

set_option maxHeartbeats 2000000 in
theorem right_12_aq (op : Nat) (h1 : 1 ≤ op) (h2 : op ≤ 113) (hk : frmT op = 12) (i : Ins) (hop : i.op = op) (rdl : ¬ i.rd < 0) (rdh : ¬ 31 < i.rd) (al : ¬ i.a < 0) (ah : ¬ 31 < i.a) (bl : ¬ i.b < 0) (bh : ¬ 31 < i.b) (csrl : ¬ i.csr < 0) (csrh : ¬ 4095 < i.csr) (zb : (i.b != 0) = false) (zaq : i.aq = true) (w : World) :
    Calls Tryz.prog 30 #[.agg #[.int .i64 i.op, .int .i64 i.rd, .int .i64 i.a, .int .i64 i.b, .int .i64 i.imm, .int .i64 i.csr, .bool i.aq, .bool i.rl]] w fun e w' => e = .returned (.bool (false)) ∧ Below w.heap.size w w' := by
  have HR : Hid (∀ w, Calls Tryz.prog 31 #[.int .i64 i.op] w fun e w' => e = .returned (.agg #[.string (nameT op), .int .u32 (mskT op), .int .u32 (matT op), .int .u8 67]) ∧ Below w.heap.size w w') := Lib.hid fun w => by rw [hop]; have h := refRow_any op h1 h2 w; rw [hk] at h; exact h
  have Hrd : Hid (∀ w, Calls Tryz.prog 61 #[.int .u8 67, .string ⟨#[85, 74, 73, 72, 87, 82, 76, 65, 67, 90, 86]⟩] w fun e w' => e = .returned (.bool true) ∧ w = w') := Lib.hid fun w => has_rd 12 (by omega) w
  have Ha : Hid (∀ w, Calls Tryz.prog 61 #[.int .u8 67, .string ⟨#[73, 72, 87, 66, 83, 70, 82, 76, 65, 67, 86]⟩] w fun e w' => e = .returned (.bool true) ∧ w = w') := Lib.hid fun w => has_a 12 (by omega) w
  have Hb : Hid (∀ w, Calls Tryz.prog 61 #[.int .u8 67, .string ⟨#[66, 83, 70, 82, 65]⟩] w fun e w' => e = .returned (.bool false) ∧ w = w') := Lib.hid fun w => has_b 12 (by omega) w
  have Hcsr : Hid (∀ w, Calls Tryz.prog 61 #[.int .u8 67, .string ⟨#[67, 90]⟩] w fun e w' => e = .returned (.bool true) ∧ w = w') := Lib.hid fun w => has_csr 12 (by omega) w
  have Hord : Hid (∀ w, Calls Tryz.prog 61 #[.int .u8 67, .string ⟨#[76, 65]⟩] w fun e w' => e = .returned (.bool false) ∧ w = w') := Lib.hid fun w => has_ord 12 (by omega) w
  have o1 : ¬ i.op < 1 := by omega
  have o2 : ¬ 113 < i.op := by omega
  clear h1 h2 hop hk
  generalize nameT op = nm at *
  generalize (mskT op : Int) = mk at *
  generalize (matT op : Int) = mt at *
  go_enter Tryz.func30, Tryz.ntmps30
  go_wp2_with (first
    | (go_at_call 31; (with_reducible refine (HR.out _).mono ?_); rintro e1 w1 ⟨rfl, hb1⟩; have HB1 : Hid (Below w.heap.size w w1) := Lib.hid (((Below.refl _ _).alloc (Nat.le_refl _) _).trans (hb1.mono (by simp))); have hs1 : w.heap.size < w1.heap.size := (by have := hb1.size; simp at this; omega); have HIR : Hid (w1.heap[w.heap.size]? = some (.cells #[.int .i64 i.op, .int .i64 i.rd, .int .i64 i.a, .int .i64 i.b, .int .i64 i.imm, .int .i64 i.csr, .bool true, .bool i.rl] 23 (0, 0))) := Lib.hid ((hb1.block _ (by simp)).trans (heap_alloc_new w _)); have d0 : w1.cell? ⟨w.heap.size, 0, none⟩ = some (.int .i64 i.op) := (by rw [cell_of_row _ _ _ _ _ _ HIR.out]; rfl); have d1 : w1.cell? ⟨w.heap.size, 1, none⟩ = some (.int .i64 i.rd) := (by rw [cell_of_row _ _ _ _ _ _ HIR.out]; rfl); have d2 : w1.cell? ⟨w.heap.size, 2, none⟩ = some (.int .i64 i.a) := (by rw [cell_of_row _ _ _ _ _ _ HIR.out]; rfl); have d3 : w1.cell? ⟨w.heap.size, 3, none⟩ = some (.int .i64 i.b) := (by rw [cell_of_row _ _ _ _ _ _ HIR.out]; rfl); have d4 : w1.cell? ⟨w.heap.size, 4, none⟩ = some (.int .i64 i.imm) := (by rw [cell_of_row _ _ _ _ _ _ HIR.out]; rfl); have d5 : w1.cell? ⟨w.heap.size, 5, none⟩ = some (.int .i64 i.csr) := (by rw [cell_of_row _ _ _ _ _ _ HIR.out]; rfl); have d6 : w1.cell? ⟨w.heap.size, 6, none⟩ = some (.bool true) := (by rw [cell_of_row _ _ _ _ _ _ HIR.out]; rfl); have d7 : w1.cell? ⟨w.heap.size, 7, none⟩ = some (.bool i.rl) := (by rw [cell_of_row _ _ _ _ _ _ HIR.out]; rfl); clear hb1)
    | (go_at_call 61; (with_reducible refine (Hrd.out _).mono ?_); rintro e w3 ⟨rfl, rfl⟩)
    | (go_at_call 61; (with_reducible refine (Ha.out _).mono ?_); rintro e w3 ⟨rfl, rfl⟩)
    | (go_at_call 61; (with_reducible refine (Hb.out _).mono ?_); rintro e w3 ⟨rfl, rfl⟩)
    | (go_at_call 61; (with_reducible refine (Hcsr.out _).mono ?_); rintro e w3 ⟨rfl, rfl⟩)
    | (go_at_call 61; (with_reducible refine (Hord.out _).mono ?_); rintro e w3 ⟨rfl, rfl⟩)
    | (go_at_call 50; (with_reducible refine (refForm_12 _).mono ?_); rintro e w3 ⟨rfl, rfl⟩))
  go_ret
  exact ⟨rfl, HB1.out.alloc HB1.out.size _⟩

set_option maxHeartbeats 2000000 in
theorem right_12_rl (op : Nat) (h1 : 1 ≤ op) (h2 : op ≤ 113) (hk : frmT op = 12) (i : Ins) (hop : i.op = op) (rdl : ¬ i.rd < 0) (rdh : ¬ 31 < i.rd) (al : ¬ i.a < 0) (ah : ¬ 31 < i.a) (bl : ¬ i.b < 0) (bh : ¬ 31 < i.b) (csrl : ¬ i.csr < 0) (csrh : ¬ 4095 < i.csr) (zb : (i.b != 0) = false) (zaq : i.aq = false) (zrl : i.rl = true) (w : World) :
    Calls Tryz.prog 30 #[.agg #[.int .i64 i.op, .int .i64 i.rd, .int .i64 i.a, .int .i64 i.b, .int .i64 i.imm, .int .i64 i.csr, .bool i.aq, .bool i.rl]] w fun e w' => e = .returned (.bool (false)) ∧ Below w.heap.size w w' := by
  have HR : Hid (∀ w, Calls Tryz.prog 31 #[.int .i64 i.op] w fun e w' => e = .returned (.agg #[.string (nameT op), .int .u32 (mskT op), .int .u32 (matT op), .int .u8 67]) ∧ Below w.heap.size w w') := Lib.hid fun w => by rw [hop]; have h := refRow_any op h1 h2 w; rw [hk] at h; exact h
  have Hrd : Hid (∀ w, Calls Tryz.prog 61 #[.int .u8 67, .string ⟨#[85, 74, 73, 72, 87, 82, 76, 65, 67, 90, 86]⟩] w fun e w' => e = .returned (.bool true) ∧ w = w') := Lib.hid fun w => has_rd 12 (by omega) w
  have Ha : Hid (∀ w, Calls Tryz.prog 61 #[.int .u8 67, .string ⟨#[73, 72, 87, 66, 83, 70, 82, 76, 65, 67, 86]⟩] w fun e w' => e = .returned (.bool true) ∧ w = w') := Lib.hid fun w => has_a 12 (by omega) w
  have Hb : Hid (∀ w, Calls Tryz.prog 61 #[.int .u8 67, .string ⟨#[66, 83, 70, 82, 65]⟩] w fun e w' => e = .returned (.bool false) ∧ w = w') := Lib.hid fun w => has_b 12 (by omega) w
  have Hcsr : Hid (∀ w, Calls Tryz.prog 61 #[.int .u8 67, .string ⟨#[67, 90]⟩] w fun e w' => e = .returned (.bool true) ∧ w = w') := Lib.hid fun w => has_csr 12 (by omega) w
  have Hord : Hid (∀ w, Calls Tryz.prog 61 #[.int .u8 67, .string ⟨#[76, 65]⟩] w fun e w' => e = .returned (.bool false) ∧ w = w') := Lib.hid fun w => has_ord 12 (by omega) w
  have o1 : ¬ i.op < 1 := by omega
  have o2 : ¬ 113 < i.op := by omega
  clear h1 h2 hop hk
  generalize nameT op = nm at *
  generalize (mskT op : Int) = mk at *
  generalize (matT op : Int) = mt at *
  go_enter Tryz.func30, Tryz.ntmps30
  go_wp2_with (first
    | (go_at_call 31; (with_reducible refine (HR.out _).mono ?_); rintro e1 w1 ⟨rfl, hb1⟩; have HB1 : Hid (Below w.heap.size w w1) := Lib.hid (((Below.refl _ _).alloc (Nat.le_refl _) _).trans (hb1.mono (by simp))); have hs1 : w.heap.size < w1.heap.size := (by have := hb1.size; simp at this; omega); have HIR : Hid (w1.heap[w.heap.size]? = some (.cells #[.int .i64 i.op, .int .i64 i.rd, .int .i64 i.a, .int .i64 i.b, .int .i64 i.imm, .int .i64 i.csr, .bool false, .bool true] 23 (0, 0))) := Lib.hid ((hb1.block _ (by simp)).trans (heap_alloc_new w _)); have d0 : w1.cell? ⟨w.heap.size, 0, none⟩ = some (.int .i64 i.op) := (by rw [cell_of_row _ _ _ _ _ _ HIR.out]; rfl); have d1 : w1.cell? ⟨w.heap.size, 1, none⟩ = some (.int .i64 i.rd) := (by rw [cell_of_row _ _ _ _ _ _ HIR.out]; rfl); have d2 : w1.cell? ⟨w.heap.size, 2, none⟩ = some (.int .i64 i.a) := (by rw [cell_of_row _ _ _ _ _ _ HIR.out]; rfl); have d3 : w1.cell? ⟨w.heap.size, 3, none⟩ = some (.int .i64 i.b) := (by rw [cell_of_row _ _ _ _ _ _ HIR.out]; rfl); have d4 : w1.cell? ⟨w.heap.size, 4, none⟩ = some (.int .i64 i.imm) := (by rw [cell_of_row _ _ _ _ _ _ HIR.out]; rfl); have d5 : w1.cell? ⟨w.heap.size, 5, none⟩ = some (.int .i64 i.csr) := (by rw [cell_of_row _ _ _ _ _ _ HIR.out]; rfl); have d6 : w1.cell? ⟨w.heap.size, 6, none⟩ = some (.bool false) := (by rw [cell_of_row _ _ _ _ _ _ HIR.out]; rfl); have d7 : w1.cell? ⟨w.heap.size, 7, none⟩ = some (.bool true) := (by rw [cell_of_row _ _ _ _ _ _ HIR.out]; rfl); clear hb1)
    | (go_at_call 61; (with_reducible refine (Hrd.out _).mono ?_); rintro e w3 ⟨rfl, rfl⟩)
    | (go_at_call 61; (with_reducible refine (Ha.out _).mono ?_); rintro e w3 ⟨rfl, rfl⟩)
    | (go_at_call 61; (with_reducible refine (Hb.out _).mono ?_); rintro e w3 ⟨rfl, rfl⟩)
    | (go_at_call 61; (with_reducible refine (Hcsr.out _).mono ?_); rintro e w3 ⟨rfl, rfl⟩)
    | (go_at_call 61; (with_reducible refine (Hord.out _).mono ?_); rintro e w3 ⟨rfl, rfl⟩)
    | (go_at_call 50; (with_reducible refine (refForm_12 _).mono ?_); rintro e w3 ⟨rfl, rfl⟩))
  go_ret
  exact ⟨rfl, HB1.out.alloc HB1.out.size _⟩

set_option maxHeartbeats 2000000 in
theorem right_12_end (op : Nat) (h1 : 1 ≤ op) (h2 : op ≤ 113) (hk : frmT op = 12) (i : Ins) (hop : i.op = op) (rdl : ¬ i.rd < 0) (rdh : ¬ 31 < i.rd) (al : ¬ i.a < 0) (ah : ¬ 31 < i.a) (bl : ¬ i.b < 0) (bh : ¬ 31 < i.b) (csrl : ¬ i.csr < 0) (csrh : ¬ 4095 < i.csr) (zb : (i.b != 0) = false) (zaq : i.aq = false) (zrl : i.rl = false) (w : World) :
    Calls Tryz.prog 30 #[.agg #[.int .i64 i.op, .int .i64 i.rd, .int .i64 i.a, .int .i64 i.b, .int .i64 i.imm, .int .i64 i.csr, .bool i.aq, .bool i.rl]] w fun e w' => e = .returned (.bool (i.imm == 0)) ∧ Below w.heap.size w w' := by
  have HR : Hid (∀ w, Calls Tryz.prog 31 #[.int .i64 i.op] w fun e w' => e = .returned (.agg #[.string (nameT op), .int .u32 (mskT op), .int .u32 (matT op), .int .u8 67]) ∧ Below w.heap.size w w') := Lib.hid fun w => by rw [hop]; have h := refRow_any op h1 h2 w; rw [hk] at h; exact h
  have Hrd : Hid (∀ w, Calls Tryz.prog 61 #[.int .u8 67, .string ⟨#[85, 74, 73, 72, 87, 82, 76, 65, 67, 90, 86]⟩] w fun e w' => e = .returned (.bool true) ∧ w = w') := Lib.hid fun w => has_rd 12 (by omega) w
  have Ha : Hid (∀ w, Calls Tryz.prog 61 #[.int .u8 67, .string ⟨#[73, 72, 87, 66, 83, 70, 82, 76, 65, 67, 86]⟩] w fun e w' => e = .returned (.bool true) ∧ w = w') := Lib.hid fun w => has_a 12 (by omega) w
  have Hb : Hid (∀ w, Calls Tryz.prog 61 #[.int .u8 67, .string ⟨#[66, 83, 70, 82, 65]⟩] w fun e w' => e = .returned (.bool false) ∧ w = w') := Lib.hid fun w => has_b 12 (by omega) w
  have Hcsr : Hid (∀ w, Calls Tryz.prog 61 #[.int .u8 67, .string ⟨#[67, 90]⟩] w fun e w' => e = .returned (.bool true) ∧ w = w') := Lib.hid fun w => has_csr 12 (by omega) w
  have Hord : Hid (∀ w, Calls Tryz.prog 61 #[.int .u8 67, .string ⟨#[76, 65]⟩] w fun e w' => e = .returned (.bool false) ∧ w = w') := Lib.hid fun w => has_ord 12 (by omega) w
  have o1 : ¬ i.op < 1 := by omega
  have o2 : ¬ 113 < i.op := by omega
  clear h1 h2 hop hk
  generalize nameT op = nm at *
  generalize (mskT op : Int) = mk at *
  generalize (matT op : Int) = mt at *
  go_enter Tryz.func30, Tryz.ntmps30
  go_wp2_with (first
    | (go_at_call 31; (with_reducible refine (HR.out _).mono ?_); rintro e1 w1 ⟨rfl, hb1⟩; have HB1 : Hid (Below w.heap.size w w1) := Lib.hid (((Below.refl _ _).alloc (Nat.le_refl _) _).trans (hb1.mono (by simp))); have hs1 : w.heap.size < w1.heap.size := (by have := hb1.size; simp at this; omega); have HIR : Hid (w1.heap[w.heap.size]? = some (.cells #[.int .i64 i.op, .int .i64 i.rd, .int .i64 i.a, .int .i64 i.b, .int .i64 i.imm, .int .i64 i.csr, .bool false, .bool false] 23 (0, 0))) := Lib.hid ((hb1.block _ (by simp)).trans (heap_alloc_new w _)); have d0 : w1.cell? ⟨w.heap.size, 0, none⟩ = some (.int .i64 i.op) := (by rw [cell_of_row _ _ _ _ _ _ HIR.out]; rfl); have d1 : w1.cell? ⟨w.heap.size, 1, none⟩ = some (.int .i64 i.rd) := (by rw [cell_of_row _ _ _ _ _ _ HIR.out]; rfl); have d2 : w1.cell? ⟨w.heap.size, 2, none⟩ = some (.int .i64 i.a) := (by rw [cell_of_row _ _ _ _ _ _ HIR.out]; rfl); have d3 : w1.cell? ⟨w.heap.size, 3, none⟩ = some (.int .i64 i.b) := (by rw [cell_of_row _ _ _ _ _ _ HIR.out]; rfl); have d4 : w1.cell? ⟨w.heap.size, 4, none⟩ = some (.int .i64 i.imm) := (by rw [cell_of_row _ _ _ _ _ _ HIR.out]; rfl); have d5 : w1.cell? ⟨w.heap.size, 5, none⟩ = some (.int .i64 i.csr) := (by rw [cell_of_row _ _ _ _ _ _ HIR.out]; rfl); have d6 : w1.cell? ⟨w.heap.size, 6, none⟩ = some (.bool false) := (by rw [cell_of_row _ _ _ _ _ _ HIR.out]; rfl); have d7 : w1.cell? ⟨w.heap.size, 7, none⟩ = some (.bool false) := (by rw [cell_of_row _ _ _ _ _ _ HIR.out]; rfl); clear hb1)
    | (go_at_call 61; (with_reducible refine (Hrd.out _).mono ?_); rintro e w3 ⟨rfl, rfl⟩)
    | (go_at_call 61; (with_reducible refine (Ha.out _).mono ?_); rintro e w3 ⟨rfl, rfl⟩)
    | (go_at_call 61; (with_reducible refine (Hb.out _).mono ?_); rintro e w3 ⟨rfl, rfl⟩)
    | (go_at_call 61; (with_reducible refine (Hcsr.out _).mono ?_); rintro e w3 ⟨rfl, rfl⟩)
    | (go_at_call 61; (with_reducible refine (Hord.out _).mono ?_); rintro e w3 ⟨rfl, rfl⟩)
    | (go_at_call 50; (with_reducible refine (refForm_12 _).mono ?_); rintro e w3 ⟨rfl, rfl⟩))
  go_ret
  exact ⟨rfl, HB1.out.alloc HB1.out.size _⟩

set_option maxHeartbeats 2000000 in
theorem right_13_a (op : Nat) (h1 : 1 ≤ op) (h2 : op ≤ 113) (hk : frmT op = 13) (i : Ins) (hop : i.op = op) (rdl : ¬ i.rd < 0) (rdh : ¬ 31 < i.rd) (al : ¬ i.a < 0) (ah : ¬ 31 < i.a) (bl : ¬ i.b < 0) (bh : ¬ 31 < i.b) (csrl : ¬ i.csr < 0) (csrh : ¬ 4095 < i.csr) (za : (i.a != 0) = true) (w : World) :
    Calls Tryz.prog 30 #[.agg #[.int .i64 i.op, .int .i64 i.rd, .int .i64 i.a, .int .i64 i.b, .int .i64 i.imm, .int .i64 i.csr, .bool i.aq, .bool i.rl]] w fun e w' => e = .returned (.bool (false)) ∧ Below w.heap.size w w' := by
  have HR : Hid (∀ w, Calls Tryz.prog 31 #[.int .i64 i.op] w fun e w' => e = .returned (.agg #[.string (nameT op), .int .u32 (mskT op), .int .u32 (matT op), .int .u8 90]) ∧ Below w.heap.size w w') := Lib.hid fun w => by rw [hop]; have h := refRow_any op h1 h2 w; rw [hk] at h; exact h
  have Hrd : Hid (∀ w, Calls Tryz.prog 61 #[.int .u8 90, .string ⟨#[85, 74, 73, 72, 87, 82, 76, 65, 67, 90, 86]⟩] w fun e w' => e = .returned (.bool true) ∧ w = w') := Lib.hid fun w => has_rd 13 (by omega) w
  have Ha : Hid (∀ w, Calls Tryz.prog 61 #[.int .u8 90, .string ⟨#[73, 72, 87, 66, 83, 70, 82, 76, 65, 67, 86]⟩] w fun e w' => e = .returned (.bool false) ∧ w = w') := Lib.hid fun w => has_a 13 (by omega) w
  have Hb : Hid (∀ w, Calls Tryz.prog 61 #[.int .u8 90, .string ⟨#[66, 83, 70, 82, 65]⟩] w fun e w' => e = .returned (.bool false) ∧ w = w') := Lib.hid fun w => has_b 13 (by omega) w
  have Hcsr : Hid (∀ w, Calls Tryz.prog 61 #[.int .u8 90, .string ⟨#[67, 90]⟩] w fun e w' => e = .returned (.bool true) ∧ w = w') := Lib.hid fun w => has_csr 13 (by omega) w
  have Hord : Hid (∀ w, Calls Tryz.prog 61 #[.int .u8 90, .string ⟨#[76, 65]⟩] w fun e w' => e = .returned (.bool false) ∧ w = w') := Lib.hid fun w => has_ord 13 (by omega) w
  have o1 : ¬ i.op < 1 := by omega
  have o2 : ¬ 113 < i.op := by omega
  clear h1 h2 hop hk
  generalize nameT op = nm at *
  generalize (mskT op : Int) = mk at *
  generalize (matT op : Int) = mt at *
  go_enter Tryz.func30, Tryz.ntmps30
  go_wp2_with (first
    | (go_at_call 31; (with_reducible refine (HR.out _).mono ?_); rintro e1 w1 ⟨rfl, hb1⟩; have HB1 : Hid (Below w.heap.size w w1) := Lib.hid (((Below.refl _ _).alloc (Nat.le_refl _) _).trans (hb1.mono (by simp))); have hs1 : w.heap.size < w1.heap.size := (by have := hb1.size; simp at this; omega); have HIR : Hid (w1.heap[w.heap.size]? = some (.cells #[.int .i64 i.op, .int .i64 i.rd, .int .i64 i.a, .int .i64 i.b, .int .i64 i.imm, .int .i64 i.csr, .bool i.aq, .bool i.rl] 23 (0, 0))) := Lib.hid ((hb1.block _ (by simp)).trans (heap_alloc_new w _)); have d0 : w1.cell? ⟨w.heap.size, 0, none⟩ = some (.int .i64 i.op) := (by rw [cell_of_row _ _ _ _ _ _ HIR.out]; rfl); have d1 : w1.cell? ⟨w.heap.size, 1, none⟩ = some (.int .i64 i.rd) := (by rw [cell_of_row _ _ _ _ _ _ HIR.out]; rfl); have d2 : w1.cell? ⟨w.heap.size, 2, none⟩ = some (.int .i64 i.a) := (by rw [cell_of_row _ _ _ _ _ _ HIR.out]; rfl); have d3 : w1.cell? ⟨w.heap.size, 3, none⟩ = some (.int .i64 i.b) := (by rw [cell_of_row _ _ _ _ _ _ HIR.out]; rfl); have d4 : w1.cell? ⟨w.heap.size, 4, none⟩ = some (.int .i64 i.imm) := (by rw [cell_of_row _ _ _ _ _ _ HIR.out]; rfl); have d5 : w1.cell? ⟨w.heap.size, 5, none⟩ = some (.int .i64 i.csr) := (by rw [cell_of_row _ _ _ _ _ _ HIR.out]; rfl); have d6 : w1.cell? ⟨w.heap.size, 6, none⟩ = some (.bool i.aq) := (by rw [cell_of_row _ _ _ _ _ _ HIR.out]; rfl); have d7 : w1.cell? ⟨w.heap.size, 7, none⟩ = some (.bool i.rl) := (by rw [cell_of_row _ _ _ _ _ _ HIR.out]; rfl); clear hb1)
    | (go_at_call 61; (with_reducible refine (Hrd.out _).mono ?_); rintro e w3 ⟨rfl, rfl⟩)
    | (go_at_call 61; (with_reducible refine (Ha.out _).mono ?_); rintro e w3 ⟨rfl, rfl⟩)
    | (go_at_call 61; (with_reducible refine (Hb.out _).mono ?_); rintro e w3 ⟨rfl, rfl⟩)
    | (go_at_call 61; (with_reducible refine (Hcsr.out _).mono ?_); rintro e w3 ⟨rfl, rfl⟩)
    | (go_at_call 61; (with_reducible refine (Hord.out _).mono ?_); rintro e w3 ⟨rfl, rfl⟩)
    | (go_at_call 50; (with_reducible refine (refForm_13 _).mono ?_); rintro e w3 ⟨rfl, rfl⟩))
  go_ret
  exact ⟨rfl, HB1.out.alloc HB1.out.size _⟩

set_option maxHeartbeats 2000000 in
theorem right_13_b (op : Nat) (h1 : 1 ≤ op) (h2 : op ≤ 113) (hk : frmT op = 13) (i : Ins) (hop : i.op = op) (rdl : ¬ i.rd < 0) (rdh : ¬ 31 < i.rd) (al : ¬ i.a < 0) (ah : ¬ 31 < i.a) (bl : ¬ i.b < 0) (bh : ¬ 31 < i.b) (csrl : ¬ i.csr < 0) (csrh : ¬ 4095 < i.csr) (za : (i.a != 0) = false) (zb : (i.b != 0) = true) (w : World) :
    Calls Tryz.prog 30 #[.agg #[.int .i64 i.op, .int .i64 i.rd, .int .i64 i.a, .int .i64 i.b, .int .i64 i.imm, .int .i64 i.csr, .bool i.aq, .bool i.rl]] w fun e w' => e = .returned (.bool (false)) ∧ Below w.heap.size w w' := by
  have HR : Hid (∀ w, Calls Tryz.prog 31 #[.int .i64 i.op] w fun e w' => e = .returned (.agg #[.string (nameT op), .int .u32 (mskT op), .int .u32 (matT op), .int .u8 90]) ∧ Below w.heap.size w w') := Lib.hid fun w => by rw [hop]; have h := refRow_any op h1 h2 w; rw [hk] at h; exact h
  have Hrd : Hid (∀ w, Calls Tryz.prog 61 #[.int .u8 90, .string ⟨#[85, 74, 73, 72, 87, 82, 76, 65, 67, 90, 86]⟩] w fun e w' => e = .returned (.bool true) ∧ w = w') := Lib.hid fun w => has_rd 13 (by omega) w
  have Ha : Hid (∀ w, Calls Tryz.prog 61 #[.int .u8 90, .string ⟨#[73, 72, 87, 66, 83, 70, 82, 76, 65, 67, 86]⟩] w fun e w' => e = .returned (.bool false) ∧ w = w') := Lib.hid fun w => has_a 13 (by omega) w
  have Hb : Hid (∀ w, Calls Tryz.prog 61 #[.int .u8 90, .string ⟨#[66, 83, 70, 82, 65]⟩] w fun e w' => e = .returned (.bool false) ∧ w = w') := Lib.hid fun w => has_b 13 (by omega) w
  have Hcsr : Hid (∀ w, Calls Tryz.prog 61 #[.int .u8 90, .string ⟨#[67, 90]⟩] w fun e w' => e = .returned (.bool true) ∧ w = w') := Lib.hid fun w => has_csr 13 (by omega) w
  have Hord : Hid (∀ w, Calls Tryz.prog 61 #[.int .u8 90, .string ⟨#[76, 65]⟩] w fun e w' => e = .returned (.bool false) ∧ w = w') := Lib.hid fun w => has_ord 13 (by omega) w
  have o1 : ¬ i.op < 1 := by omega
  have o2 : ¬ 113 < i.op := by omega
  clear h1 h2 hop hk
  generalize nameT op = nm at *
  generalize (mskT op : Int) = mk at *
  generalize (matT op : Int) = mt at *
  go_enter Tryz.func30, Tryz.ntmps30
  go_wp2_with (first
    | (go_at_call 31; (with_reducible refine (HR.out _).mono ?_); rintro e1 w1 ⟨rfl, hb1⟩; have HB1 : Hid (Below w.heap.size w w1) := Lib.hid (((Below.refl _ _).alloc (Nat.le_refl _) _).trans (hb1.mono (by simp))); have hs1 : w.heap.size < w1.heap.size := (by have := hb1.size; simp at this; omega); have HIR : Hid (w1.heap[w.heap.size]? = some (.cells #[.int .i64 i.op, .int .i64 i.rd, .int .i64 i.a, .int .i64 i.b, .int .i64 i.imm, .int .i64 i.csr, .bool i.aq, .bool i.rl] 23 (0, 0))) := Lib.hid ((hb1.block _ (by simp)).trans (heap_alloc_new w _)); have d0 : w1.cell? ⟨w.heap.size, 0, none⟩ = some (.int .i64 i.op) := (by rw [cell_of_row _ _ _ _ _ _ HIR.out]; rfl); have d1 : w1.cell? ⟨w.heap.size, 1, none⟩ = some (.int .i64 i.rd) := (by rw [cell_of_row _ _ _ _ _ _ HIR.out]; rfl); have d2 : w1.cell? ⟨w.heap.size, 2, none⟩ = some (.int .i64 i.a) := (by rw [cell_of_row _ _ _ _ _ _ HIR.out]; rfl); have d3 : w1.cell? ⟨w.heap.size, 3, none⟩ = some (.int .i64 i.b) := (by rw [cell_of_row _ _ _ _ _ _ HIR.out]; rfl); have d4 : w1.cell? ⟨w.heap.size, 4, none⟩ = some (.int .i64 i.imm) := (by rw [cell_of_row _ _ _ _ _ _ HIR.out]; rfl); have d5 : w1.cell? ⟨w.heap.size, 5, none⟩ = some (.int .i64 i.csr) := (by rw [cell_of_row _ _ _ _ _ _ HIR.out]; rfl); have d6 : w1.cell? ⟨w.heap.size, 6, none⟩ = some (.bool i.aq) := (by rw [cell_of_row _ _ _ _ _ _ HIR.out]; rfl); have d7 : w1.cell? ⟨w.heap.size, 7, none⟩ = some (.bool i.rl) := (by rw [cell_of_row _ _ _ _ _ _ HIR.out]; rfl); clear hb1)
    | (go_at_call 61; (with_reducible refine (Hrd.out _).mono ?_); rintro e w3 ⟨rfl, rfl⟩)
    | (go_at_call 61; (with_reducible refine (Ha.out _).mono ?_); rintro e w3 ⟨rfl, rfl⟩)
    | (go_at_call 61; (with_reducible refine (Hb.out _).mono ?_); rintro e w3 ⟨rfl, rfl⟩)
    | (go_at_call 61; (with_reducible refine (Hcsr.out _).mono ?_); rintro e w3 ⟨rfl, rfl⟩)
    | (go_at_call 61; (with_reducible refine (Hord.out _).mono ?_); rintro e w3 ⟨rfl, rfl⟩)
    | (go_at_call 50; (with_reducible refine (refForm_13 _).mono ?_); rintro e w3 ⟨rfl, rfl⟩))
  go_ret
  exact ⟨rfl, HB1.out.alloc HB1.out.size _⟩

set_option maxHeartbeats 2000000 in
theorem right_13_aq (op : Nat) (h1 : 1 ≤ op) (h2 : op ≤ 113) (hk : frmT op = 13) (i : Ins) (hop : i.op = op) (rdl : ¬ i.rd < 0) (rdh : ¬ 31 < i.rd) (al : ¬ i.a < 0) (ah : ¬ 31 < i.a) (bl : ¬ i.b < 0) (bh : ¬ 31 < i.b) (csrl : ¬ i.csr < 0) (csrh : ¬ 4095 < i.csr) (za : (i.a != 0) = false) (zb : (i.b != 0) = false) (zaq : i.aq = true) (w : World) :
    Calls Tryz.prog 30 #[.agg #[.int .i64 i.op, .int .i64 i.rd, .int .i64 i.a, .int .i64 i.b, .int .i64 i.imm, .int .i64 i.csr, .bool i.aq, .bool i.rl]] w fun e w' => e = .returned (.bool (false)) ∧ Below w.heap.size w w' := by
  have HR : Hid (∀ w, Calls Tryz.prog 31 #[.int .i64 i.op] w fun e w' => e = .returned (.agg #[.string (nameT op), .int .u32 (mskT op), .int .u32 (matT op), .int .u8 90]) ∧ Below w.heap.size w w') := Lib.hid fun w => by rw [hop]; have h := refRow_any op h1 h2 w; rw [hk] at h; exact h
  have Hrd : Hid (∀ w, Calls Tryz.prog 61 #[.int .u8 90, .string ⟨#[85, 74, 73, 72, 87, 82, 76, 65, 67, 90, 86]⟩] w fun e w' => e = .returned (.bool true) ∧ w = w') := Lib.hid fun w => has_rd 13 (by omega) w
  have Ha : Hid (∀ w, Calls Tryz.prog 61 #[.int .u8 90, .string ⟨#[73, 72, 87, 66, 83, 70, 82, 76, 65, 67, 86]⟩] w fun e w' => e = .returned (.bool false) ∧ w = w') := Lib.hid fun w => has_a 13 (by omega) w
  have Hb : Hid (∀ w, Calls Tryz.prog 61 #[.int .u8 90, .string ⟨#[66, 83, 70, 82, 65]⟩] w fun e w' => e = .returned (.bool false) ∧ w = w') := Lib.hid fun w => has_b 13 (by omega) w
  have Hcsr : Hid (∀ w, Calls Tryz.prog 61 #[.int .u8 90, .string ⟨#[67, 90]⟩] w fun e w' => e = .returned (.bool true) ∧ w = w') := Lib.hid fun w => has_csr 13 (by omega) w
  have Hord : Hid (∀ w, Calls Tryz.prog 61 #[.int .u8 90, .string ⟨#[76, 65]⟩] w fun e w' => e = .returned (.bool false) ∧ w = w') := Lib.hid fun w => has_ord 13 (by omega) w
  have o1 : ¬ i.op < 1 := by omega
  have o2 : ¬ 113 < i.op := by omega
  clear h1 h2 hop hk
  generalize nameT op = nm at *
  generalize (mskT op : Int) = mk at *
  generalize (matT op : Int) = mt at *
  go_enter Tryz.func30, Tryz.ntmps30
  go_wp2_with (first
    | (go_at_call 31; (with_reducible refine (HR.out _).mono ?_); rintro e1 w1 ⟨rfl, hb1⟩; have HB1 : Hid (Below w.heap.size w w1) := Lib.hid (((Below.refl _ _).alloc (Nat.le_refl _) _).trans (hb1.mono (by simp))); have hs1 : w.heap.size < w1.heap.size := (by have := hb1.size; simp at this; omega); have HIR : Hid (w1.heap[w.heap.size]? = some (.cells #[.int .i64 i.op, .int .i64 i.rd, .int .i64 i.a, .int .i64 i.b, .int .i64 i.imm, .int .i64 i.csr, .bool true, .bool i.rl] 23 (0, 0))) := Lib.hid ((hb1.block _ (by simp)).trans (heap_alloc_new w _)); have d0 : w1.cell? ⟨w.heap.size, 0, none⟩ = some (.int .i64 i.op) := (by rw [cell_of_row _ _ _ _ _ _ HIR.out]; rfl); have d1 : w1.cell? ⟨w.heap.size, 1, none⟩ = some (.int .i64 i.rd) := (by rw [cell_of_row _ _ _ _ _ _ HIR.out]; rfl); have d2 : w1.cell? ⟨w.heap.size, 2, none⟩ = some (.int .i64 i.a) := (by rw [cell_of_row _ _ _ _ _ _ HIR.out]; rfl); have d3 : w1.cell? ⟨w.heap.size, 3, none⟩ = some (.int .i64 i.b) := (by rw [cell_of_row _ _ _ _ _ _ HIR.out]; rfl); have d4 : w1.cell? ⟨w.heap.size, 4, none⟩ = some (.int .i64 i.imm) := (by rw [cell_of_row _ _ _ _ _ _ HIR.out]; rfl); have d5 : w1.cell? ⟨w.heap.size, 5, none⟩ = some (.int .i64 i.csr) := (by rw [cell_of_row _ _ _ _ _ _ HIR.out]; rfl); have d6 : w1.cell? ⟨w.heap.size, 6, none⟩ = some (.bool true) := (by rw [cell_of_row _ _ _ _ _ _ HIR.out]; rfl); have d7 : w1.cell? ⟨w.heap.size, 7, none⟩ = some (.bool i.rl) := (by rw [cell_of_row _ _ _ _ _ _ HIR.out]; rfl); clear hb1)
    | (go_at_call 61; (with_reducible refine (Hrd.out _).mono ?_); rintro e w3 ⟨rfl, rfl⟩)
    | (go_at_call 61; (with_reducible refine (Ha.out _).mono ?_); rintro e w3 ⟨rfl, rfl⟩)
    | (go_at_call 61; (with_reducible refine (Hb.out _).mono ?_); rintro e w3 ⟨rfl, rfl⟩)
    | (go_at_call 61; (with_reducible refine (Hcsr.out _).mono ?_); rintro e w3 ⟨rfl, rfl⟩)
    | (go_at_call 61; (with_reducible refine (Hord.out _).mono ?_); rintro e w3 ⟨rfl, rfl⟩)
    | (go_at_call 50; (with_reducible refine (refForm_13 _).mono ?_); rintro e w3 ⟨rfl, rfl⟩))
  go_ret
  exact ⟨rfl, HB1.out.alloc HB1.out.size _⟩

set_option maxHeartbeats 2000000 in
theorem right_13_rl (op : Nat) (h1 : 1 ≤ op) (h2 : op ≤ 113) (hk : frmT op = 13) (i : Ins) (hop : i.op = op) (rdl : ¬ i.rd < 0) (rdh : ¬ 31 < i.rd) (al : ¬ i.a < 0) (ah : ¬ 31 < i.a) (bl : ¬ i.b < 0) (bh : ¬ 31 < i.b) (csrl : ¬ i.csr < 0) (csrh : ¬ 4095 < i.csr) (za : (i.a != 0) = false) (zb : (i.b != 0) = false) (zaq : i.aq = false) (zrl : i.rl = true) (w : World) :
    Calls Tryz.prog 30 #[.agg #[.int .i64 i.op, .int .i64 i.rd, .int .i64 i.a, .int .i64 i.b, .int .i64 i.imm, .int .i64 i.csr, .bool i.aq, .bool i.rl]] w fun e w' => e = .returned (.bool (false)) ∧ Below w.heap.size w w' := by
  have HR : Hid (∀ w, Calls Tryz.prog 31 #[.int .i64 i.op] w fun e w' => e = .returned (.agg #[.string (nameT op), .int .u32 (mskT op), .int .u32 (matT op), .int .u8 90]) ∧ Below w.heap.size w w') := Lib.hid fun w => by rw [hop]; have h := refRow_any op h1 h2 w; rw [hk] at h; exact h
  have Hrd : Hid (∀ w, Calls Tryz.prog 61 #[.int .u8 90, .string ⟨#[85, 74, 73, 72, 87, 82, 76, 65, 67, 90, 86]⟩] w fun e w' => e = .returned (.bool true) ∧ w = w') := Lib.hid fun w => has_rd 13 (by omega) w
  have Ha : Hid (∀ w, Calls Tryz.prog 61 #[.int .u8 90, .string ⟨#[73, 72, 87, 66, 83, 70, 82, 76, 65, 67, 86]⟩] w fun e w' => e = .returned (.bool false) ∧ w = w') := Lib.hid fun w => has_a 13 (by omega) w
  have Hb : Hid (∀ w, Calls Tryz.prog 61 #[.int .u8 90, .string ⟨#[66, 83, 70, 82, 65]⟩] w fun e w' => e = .returned (.bool false) ∧ w = w') := Lib.hid fun w => has_b 13 (by omega) w
  have Hcsr : Hid (∀ w, Calls Tryz.prog 61 #[.int .u8 90, .string ⟨#[67, 90]⟩] w fun e w' => e = .returned (.bool true) ∧ w = w') := Lib.hid fun w => has_csr 13 (by omega) w
  have Hord : Hid (∀ w, Calls Tryz.prog 61 #[.int .u8 90, .string ⟨#[76, 65]⟩] w fun e w' => e = .returned (.bool false) ∧ w = w') := Lib.hid fun w => has_ord 13 (by omega) w
  have o1 : ¬ i.op < 1 := by omega
  have o2 : ¬ 113 < i.op := by omega
  clear h1 h2 hop hk
  generalize nameT op = nm at *
  generalize (mskT op : Int) = mk at *
  generalize (matT op : Int) = mt at *
  go_enter Tryz.func30, Tryz.ntmps30
  go_wp2_with (first
    | (go_at_call 31; (with_reducible refine (HR.out _).mono ?_); rintro e1 w1 ⟨rfl, hb1⟩; have HB1 : Hid (Below w.heap.size w w1) := Lib.hid (((Below.refl _ _).alloc (Nat.le_refl _) _).trans (hb1.mono (by simp))); have hs1 : w.heap.size < w1.heap.size := (by have := hb1.size; simp at this; omega); have HIR : Hid (w1.heap[w.heap.size]? = some (.cells #[.int .i64 i.op, .int .i64 i.rd, .int .i64 i.a, .int .i64 i.b, .int .i64 i.imm, .int .i64 i.csr, .bool false, .bool true] 23 (0, 0))) := Lib.hid ((hb1.block _ (by simp)).trans (heap_alloc_new w _)); have d0 : w1.cell? ⟨w.heap.size, 0, none⟩ = some (.int .i64 i.op) := (by rw [cell_of_row _ _ _ _ _ _ HIR.out]; rfl); have d1 : w1.cell? ⟨w.heap.size, 1, none⟩ = some (.int .i64 i.rd) := (by rw [cell_of_row _ _ _ _ _ _ HIR.out]; rfl); have d2 : w1.cell? ⟨w.heap.size, 2, none⟩ = some (.int .i64 i.a) := (by rw [cell_of_row _ _ _ _ _ _ HIR.out]; rfl); have d3 : w1.cell? ⟨w.heap.size, 3, none⟩ = some (.int .i64 i.b) := (by rw [cell_of_row _ _ _ _ _ _ HIR.out]; rfl); have d4 : w1.cell? ⟨w.heap.size, 4, none⟩ = some (.int .i64 i.imm) := (by rw [cell_of_row _ _ _ _ _ _ HIR.out]; rfl); have d5 : w1.cell? ⟨w.heap.size, 5, none⟩ = some (.int .i64 i.csr) := (by rw [cell_of_row _ _ _ _ _ _ HIR.out]; rfl); have d6 : w1.cell? ⟨w.heap.size, 6, none⟩ = some (.bool false) := (by rw [cell_of_row _ _ _ _ _ _ HIR.out]; rfl); have d7 : w1.cell? ⟨w.heap.size, 7, none⟩ = some (.bool true) := (by rw [cell_of_row _ _ _ _ _ _ HIR.out]; rfl); clear hb1)
    | (go_at_call 61; (with_reducible refine (Hrd.out _).mono ?_); rintro e w3 ⟨rfl, rfl⟩)
    | (go_at_call 61; (with_reducible refine (Ha.out _).mono ?_); rintro e w3 ⟨rfl, rfl⟩)
    | (go_at_call 61; (with_reducible refine (Hb.out _).mono ?_); rintro e w3 ⟨rfl, rfl⟩)
    | (go_at_call 61; (with_reducible refine (Hcsr.out _).mono ?_); rintro e w3 ⟨rfl, rfl⟩)
    | (go_at_call 61; (with_reducible refine (Hord.out _).mono ?_); rintro e w3 ⟨rfl, rfl⟩)
    | (go_at_call 50; (with_reducible refine (refForm_13 _).mono ?_); rintro e w3 ⟨rfl, rfl⟩))
  go_ret
  exact ⟨rfl, HB1.out.alloc HB1.out.size _⟩

set_option maxHeartbeats 2000000 in
theorem right_13_end (op : Nat) (h1 : 1 ≤ op) (h2 : op ≤ 113) (hk : frmT op = 13) (i : Ins) (hop : i.op = op) (rdl : ¬ i.rd < 0) (rdh : ¬ 31 < i.rd) (al : ¬ i.a < 0) (ah : ¬ 31 < i.a) (bl : ¬ i.b < 0) (bh : ¬ 31 < i.b) (csrl : ¬ i.csr < 0) (csrh : ¬ 4095 < i.csr) (za : (i.a != 0) = false) (zb : (i.b != 0) = false) (zaq : i.aq = false) (zrl : i.rl = false) (w : World) :
    Calls Tryz.prog 30 #[.agg #[.int .i64 i.op, .int .i64 i.rd, .int .i64 i.a, .int .i64 i.b, .int .i64 i.imm, .int .i64 i.csr, .bool i.aq, .bool i.rl]] w fun e w' => e = .returned (.bool ((formL 9).number ((formL 9).word i.imm) == i.imm)) ∧ Below w.heap.size w w' := by
  have HR : Hid (∀ w, Calls Tryz.prog 31 #[.int .i64 i.op] w fun e w' => e = .returned (.agg #[.string (nameT op), .int .u32 (mskT op), .int .u32 (matT op), .int .u8 90]) ∧ Below w.heap.size w w') := Lib.hid fun w => by rw [hop]; have h := refRow_any op h1 h2 w; rw [hk] at h; exact h
  have Hrd : Hid (∀ w, Calls Tryz.prog 61 #[.int .u8 90, .string ⟨#[85, 74, 73, 72, 87, 82, 76, 65, 67, 90, 86]⟩] w fun e w' => e = .returned (.bool true) ∧ w = w') := Lib.hid fun w => has_rd 13 (by omega) w
  have Ha : Hid (∀ w, Calls Tryz.prog 61 #[.int .u8 90, .string ⟨#[73, 72, 87, 66, 83, 70, 82, 76, 65, 67, 86]⟩] w fun e w' => e = .returned (.bool false) ∧ w = w') := Lib.hid fun w => has_a 13 (by omega) w
  have Hb : Hid (∀ w, Calls Tryz.prog 61 #[.int .u8 90, .string ⟨#[66, 83, 70, 82, 65]⟩] w fun e w' => e = .returned (.bool false) ∧ w = w') := Lib.hid fun w => has_b 13 (by omega) w
  have Hcsr : Hid (∀ w, Calls Tryz.prog 61 #[.int .u8 90, .string ⟨#[67, 90]⟩] w fun e w' => e = .returned (.bool true) ∧ w = w') := Lib.hid fun w => has_csr 13 (by omega) w
  have Hord : Hid (∀ w, Calls Tryz.prog 61 #[.int .u8 90, .string ⟨#[76, 65]⟩] w fun e w' => e = .returned (.bool false) ∧ w = w') := Lib.hid fun w => has_ord 13 (by omega) w
  have HFI : Hid (∀ w, Calls Tryz.prog 49 #[.int .i64 9, .int .i64 i.imm] w fun e w' => e = .returned (.bool ((formL 9).number ((formL 9).word i.imm) == i.imm)) ∧ Below w.heap.size w w') := Lib.hid fun w => refFits_form 9 (by omega) i.imm w
  generalize ((formL 9).number ((formL 9).word i.imm) == i.imm) = r at *
  have o1 : ¬ i.op < 1 := by omega
  have o2 : ¬ 113 < i.op := by omega
  clear h1 h2 hop hk
  generalize nameT op = nm at *
  generalize (mskT op : Int) = mk at *
  generalize (matT op : Int) = mt at *
  go_enter Tryz.func30, Tryz.ntmps30
  go_wp2_with (first
    | (go_at_call 31; (with_reducible refine (HR.out _).mono ?_); rintro e1 w1 ⟨rfl, hb1⟩; have HB1 : Hid (Below w.heap.size w w1) := Lib.hid (((Below.refl _ _).alloc (Nat.le_refl _) _).trans (hb1.mono (by simp))); have hs1 : w.heap.size < w1.heap.size := (by have := hb1.size; simp at this; omega); have HIR : Hid (w1.heap[w.heap.size]? = some (.cells #[.int .i64 i.op, .int .i64 i.rd, .int .i64 i.a, .int .i64 i.b, .int .i64 i.imm, .int .i64 i.csr, .bool false, .bool false] 23 (0, 0))) := Lib.hid ((hb1.block _ (by simp)).trans (heap_alloc_new w _)); have d0 : w1.cell? ⟨w.heap.size, 0, none⟩ = some (.int .i64 i.op) := (by rw [cell_of_row _ _ _ _ _ _ HIR.out]; rfl); have d1 : w1.cell? ⟨w.heap.size, 1, none⟩ = some (.int .i64 i.rd) := (by rw [cell_of_row _ _ _ _ _ _ HIR.out]; rfl); have d2 : w1.cell? ⟨w.heap.size, 2, none⟩ = some (.int .i64 i.a) := (by rw [cell_of_row _ _ _ _ _ _ HIR.out]; rfl); have d3 : w1.cell? ⟨w.heap.size, 3, none⟩ = some (.int .i64 i.b) := (by rw [cell_of_row _ _ _ _ _ _ HIR.out]; rfl); have d4 : w1.cell? ⟨w.heap.size, 4, none⟩ = some (.int .i64 i.imm) := (by rw [cell_of_row _ _ _ _ _ _ HIR.out]; rfl); have d5 : w1.cell? ⟨w.heap.size, 5, none⟩ = some (.int .i64 i.csr) := (by rw [cell_of_row _ _ _ _ _ _ HIR.out]; rfl); have d6 : w1.cell? ⟨w.heap.size, 6, none⟩ = some (.bool false) := (by rw [cell_of_row _ _ _ _ _ _ HIR.out]; rfl); have d7 : w1.cell? ⟨w.heap.size, 7, none⟩ = some (.bool false) := (by rw [cell_of_row _ _ _ _ _ _ HIR.out]; rfl); clear hb1)
    | (go_at_call 61; (with_reducible refine (Hrd.out _).mono ?_); rintro e w3 ⟨rfl, rfl⟩)
    | (go_at_call 61; (with_reducible refine (Ha.out _).mono ?_); rintro e w3 ⟨rfl, rfl⟩)
    | (go_at_call 61; (with_reducible refine (Hb.out _).mono ?_); rintro e w3 ⟨rfl, rfl⟩)
    | (go_at_call 61; (with_reducible refine (Hcsr.out _).mono ?_); rintro e w3 ⟨rfl, rfl⟩)
    | (go_at_call 61; (with_reducible refine (Hord.out _).mono ?_); rintro e w3 ⟨rfl, rfl⟩)
    | (go_at_call 50; (with_reducible refine (refForm_13 _).mono ?_); rintro e w3 ⟨rfl, rfl⟩))
  have HB2 : Hid (Below w.heap.size w (w1.alloc (.cells #[.string nm, .int .u32 mk, .int .u32 mt, .int .u8 90] 59))) := Lib.hid (HB1.out.alloc HB1.out.size _)
  have q3 : (w1.alloc (.cells #[.string nm, .int .u32 mk, .int .u32 mt, .int .u8 90] 59)).cell? ⟨w1.heap.size, 3, none⟩ = some (.int .u8 90) := World.cell?_alloc_at _ _ _ _ rfl
  have q4 : (w1.alloc (.cells #[.string nm, .int .u32 mk, .int .u32 mt, .int .u8 90] 59)).cell? ⟨w.heap.size, 4, none⟩ = some (.int .i64 i.imm) := by go_simp
  have s1 : w1.heap.size < (w1.alloc (.cells #[.string nm, .int .u32 mk, .int .u32 mt, .int .u8 90] 59)).heap.size := by rw [World.size_alloc]; omega
  have s2 : w.heap.size < (w1.alloc (.cells #[.string nm, .int .u32 mk, .int .u32 mt, .int .u8 90] 59)).heap.size := by rw [World.size_alloc]; omega
  clear d0 d1 d2 d3 d4 d5 d6 d7 HIR HB1
  generalize hw2 : (w1.alloc (.cells #[.string nm, .int .u32 mk, .int .u32 mt, .int .u8 90] 59)) = w2 at *
  clear hw2
  generalize w1.heap.size = m at *
  generalize hn : w.heap.size = n at *
  have HNN := Lib.hid hn
  clear hn
  go_region_held3 (fun w' => w'.cell? ⟨m, 3, none⟩ = some (.int .u8 90) ∧ w'.cell? ⟨n, 4, none⟩ = some (.int .i64 i.imm)) (go_keep)
    (first
      | (go_at_call 50; refine (refForm_13 _).mono ?_; rintro e w3 ⟨rfl, rfl⟩)
      | (go_at_call 49; refine (HFI.out _).mono ?_; rintro e w4 ⟨rfl, hb4⟩; have g3 := (hb4.cell (p := ⟨m, 3, none⟩) s1).trans q3; have g4 := (hb4.cell (p := ⟨n, 4, none⟩) s2).trans q4; have HB4 := Lib.hid (HB2.out.trans (((Below.refl _ _).drew.trans hb4).mono (Nat.le_of_lt s2))); clear hb4))
  go_wp2
  go_ret
  exact ⟨rfl, by rw [HNN.out]; exact HB4.out⟩

set_option maxHeartbeats 2000000 in
theorem right_14_b (op : Nat) (h1 : 1 ≤ op) (h2 : op ≤ 113) (hk : frmT op = 14) (i : Ins) (hop : i.op = op) (rdl : ¬ i.rd < 0) (rdh : ¬ 31 < i.rd) (al : ¬ i.a < 0) (ah : ¬ 31 < i.a) (bl : ¬ i.b < 0) (bh : ¬ 31 < i.b) (csrl : ¬ i.csr < 0) (csrh : ¬ 4095 < i.csr) (zb : (i.b != 0) = true) (w : World) :
    Calls Tryz.prog 30 #[.agg #[.int .i64 i.op, .int .i64 i.rd, .int .i64 i.a, .int .i64 i.b, .int .i64 i.imm, .int .i64 i.csr, .bool i.aq, .bool i.rl]] w fun e w' => e = .returned (.bool (false)) ∧ Below w.heap.size w w' := by
  have HR : Hid (∀ w, Calls Tryz.prog 31 #[.int .i64 i.op] w fun e w' => e = .returned (.agg #[.string (nameT op), .int .u32 (mskT op), .int .u32 (matT op), .int .u8 86]) ∧ Below w.heap.size w w') := Lib.hid fun w => by rw [hop]; have h := refRow_any op h1 h2 w; rw [hk] at h; exact h
  have Hrd : Hid (∀ w, Calls Tryz.prog 61 #[.int .u8 86, .string ⟨#[85, 74, 73, 72, 87, 82, 76, 65, 67, 90, 86]⟩] w fun e w' => e = .returned (.bool true) ∧ w = w') := Lib.hid fun w => has_rd 14 (by omega) w
  have Ha : Hid (∀ w, Calls Tryz.prog 61 #[.int .u8 86, .string ⟨#[73, 72, 87, 66, 83, 70, 82, 76, 65, 67, 86]⟩] w fun e w' => e = .returned (.bool true) ∧ w = w') := Lib.hid fun w => has_a 14 (by omega) w
  have Hb : Hid (∀ w, Calls Tryz.prog 61 #[.int .u8 86, .string ⟨#[66, 83, 70, 82, 65]⟩] w fun e w' => e = .returned (.bool false) ∧ w = w') := Lib.hid fun w => has_b 14 (by omega) w
  have Hcsr : Hid (∀ w, Calls Tryz.prog 61 #[.int .u8 86, .string ⟨#[67, 90]⟩] w fun e w' => e = .returned (.bool false) ∧ w = w') := Lib.hid fun w => has_csr 14 (by omega) w
  have Hord : Hid (∀ w, Calls Tryz.prog 61 #[.int .u8 86, .string ⟨#[76, 65]⟩] w fun e w' => e = .returned (.bool false) ∧ w = w') := Lib.hid fun w => has_ord 14 (by omega) w
  have o1 : ¬ i.op < 1 := by omega
  have o2 : ¬ 113 < i.op := by omega
  clear h1 h2 hop hk
  generalize nameT op = nm at *
  generalize (mskT op : Int) = mk at *
  generalize (matT op : Int) = mt at *
  go_enter Tryz.func30, Tryz.ntmps30
  go_wp2_with (first
    | (go_at_call 31; (with_reducible refine (HR.out _).mono ?_); rintro e1 w1 ⟨rfl, hb1⟩; have HB1 : Hid (Below w.heap.size w w1) := Lib.hid (((Below.refl _ _).alloc (Nat.le_refl _) _).trans (hb1.mono (by simp))); have hs1 : w.heap.size < w1.heap.size := (by have := hb1.size; simp at this; omega); have HIR : Hid (w1.heap[w.heap.size]? = some (.cells #[.int .i64 i.op, .int .i64 i.rd, .int .i64 i.a, .int .i64 i.b, .int .i64 i.imm, .int .i64 i.csr, .bool i.aq, .bool i.rl] 23 (0, 0))) := Lib.hid ((hb1.block _ (by simp)).trans (heap_alloc_new w _)); have d0 : w1.cell? ⟨w.heap.size, 0, none⟩ = some (.int .i64 i.op) := (by rw [cell_of_row _ _ _ _ _ _ HIR.out]; rfl); have d1 : w1.cell? ⟨w.heap.size, 1, none⟩ = some (.int .i64 i.rd) := (by rw [cell_of_row _ _ _ _ _ _ HIR.out]; rfl); have d2 : w1.cell? ⟨w.heap.size, 2, none⟩ = some (.int .i64 i.a) := (by rw [cell_of_row _ _ _ _ _ _ HIR.out]; rfl); have d3 : w1.cell? ⟨w.heap.size, 3, none⟩ = some (.int .i64 i.b) := (by rw [cell_of_row _ _ _ _ _ _ HIR.out]; rfl); have d4 : w1.cell? ⟨w.heap.size, 4, none⟩ = some (.int .i64 i.imm) := (by rw [cell_of_row _ _ _ _ _ _ HIR.out]; rfl); have d5 : w1.cell? ⟨w.heap.size, 5, none⟩ = some (.int .i64 i.csr) := (by rw [cell_of_row _ _ _ _ _ _ HIR.out]; rfl); have d6 : w1.cell? ⟨w.heap.size, 6, none⟩ = some (.bool i.aq) := (by rw [cell_of_row _ _ _ _ _ _ HIR.out]; rfl); have d7 : w1.cell? ⟨w.heap.size, 7, none⟩ = some (.bool i.rl) := (by rw [cell_of_row _ _ _ _ _ _ HIR.out]; rfl); clear hb1)
    | (go_at_call 61; (with_reducible refine (Hrd.out _).mono ?_); rintro e w3 ⟨rfl, rfl⟩)
    | (go_at_call 61; (with_reducible refine (Ha.out _).mono ?_); rintro e w3 ⟨rfl, rfl⟩)
    | (go_at_call 61; (with_reducible refine (Hb.out _).mono ?_); rintro e w3 ⟨rfl, rfl⟩)
    | (go_at_call 61; (with_reducible refine (Hcsr.out _).mono ?_); rintro e w3 ⟨rfl, rfl⟩)
    | (go_at_call 61; (with_reducible refine (Hord.out _).mono ?_); rintro e w3 ⟨rfl, rfl⟩)
    | (go_at_call 50; (with_reducible refine (refForm_14 _).mono ?_); rintro e w3 ⟨rfl, rfl⟩))
  go_ret
  exact ⟨rfl, HB1.out.alloc HB1.out.size _⟩

set_option maxHeartbeats 2000000 in
theorem right_14_csr (op : Nat) (h1 : 1 ≤ op) (h2 : op ≤ 113) (hk : frmT op = 14) (i : Ins) (hop : i.op = op) (rdl : ¬ i.rd < 0) (rdh : ¬ 31 < i.rd) (al : ¬ i.a < 0) (ah : ¬ 31 < i.a) (bl : ¬ i.b < 0) (bh : ¬ 31 < i.b) (csrl : ¬ i.csr < 0) (csrh : ¬ 4095 < i.csr) (zb : (i.b != 0) = false) (zcsr : (i.csr != 0) = true) (w : World) :
    Calls Tryz.prog 30 #[.agg #[.int .i64 i.op, .int .i64 i.rd, .int .i64 i.a, .int .i64 i.b, .int .i64 i.imm, .int .i64 i.csr, .bool i.aq, .bool i.rl]] w fun e w' => e = .returned (.bool (false)) ∧ Below w.heap.size w w' := by
  have HR : Hid (∀ w, Calls Tryz.prog 31 #[.int .i64 i.op] w fun e w' => e = .returned (.agg #[.string (nameT op), .int .u32 (mskT op), .int .u32 (matT op), .int .u8 86]) ∧ Below w.heap.size w w') := Lib.hid fun w => by rw [hop]; have h := refRow_any op h1 h2 w; rw [hk] at h; exact h
  have Hrd : Hid (∀ w, Calls Tryz.prog 61 #[.int .u8 86, .string ⟨#[85, 74, 73, 72, 87, 82, 76, 65, 67, 90, 86]⟩] w fun e w' => e = .returned (.bool true) ∧ w = w') := Lib.hid fun w => has_rd 14 (by omega) w
  have Ha : Hid (∀ w, Calls Tryz.prog 61 #[.int .u8 86, .string ⟨#[73, 72, 87, 66, 83, 70, 82, 76, 65, 67, 86]⟩] w fun e w' => e = .returned (.bool true) ∧ w = w') := Lib.hid fun w => has_a 14 (by omega) w
  have Hb : Hid (∀ w, Calls Tryz.prog 61 #[.int .u8 86, .string ⟨#[66, 83, 70, 82, 65]⟩] w fun e w' => e = .returned (.bool false) ∧ w = w') := Lib.hid fun w => has_b 14 (by omega) w
  have Hcsr : Hid (∀ w, Calls Tryz.prog 61 #[.int .u8 86, .string ⟨#[67, 90]⟩] w fun e w' => e = .returned (.bool false) ∧ w = w') := Lib.hid fun w => has_csr 14 (by omega) w
  have Hord : Hid (∀ w, Calls Tryz.prog 61 #[.int .u8 86, .string ⟨#[76, 65]⟩] w fun e w' => e = .returned (.bool false) ∧ w = w') := Lib.hid fun w => has_ord 14 (by omega) w
  have o1 : ¬ i.op < 1 := by omega
  have o2 : ¬ 113 < i.op := by omega
  clear h1 h2 hop hk
  generalize nameT op = nm at *
  generalize (mskT op : Int) = mk at *
  generalize (matT op : Int) = mt at *
  go_enter Tryz.func30, Tryz.ntmps30
  go_wp2_with (first
    | (go_at_call 31; (with_reducible refine (HR.out _).mono ?_); rintro e1 w1 ⟨rfl, hb1⟩; have HB1 : Hid (Below w.heap.size w w1) := Lib.hid (((Below.refl _ _).alloc (Nat.le_refl _) _).trans (hb1.mono (by simp))); have hs1 : w.heap.size < w1.heap.size := (by have := hb1.size; simp at this; omega); have HIR : Hid (w1.heap[w.heap.size]? = some (.cells #[.int .i64 i.op, .int .i64 i.rd, .int .i64 i.a, .int .i64 i.b, .int .i64 i.imm, .int .i64 i.csr, .bool i.aq, .bool i.rl] 23 (0, 0))) := Lib.hid ((hb1.block _ (by simp)).trans (heap_alloc_new w _)); have d0 : w1.cell? ⟨w.heap.size, 0, none⟩ = some (.int .i64 i.op) := (by rw [cell_of_row _ _ _ _ _ _ HIR.out]; rfl); have d1 : w1.cell? ⟨w.heap.size, 1, none⟩ = some (.int .i64 i.rd) := (by rw [cell_of_row _ _ _ _ _ _ HIR.out]; rfl); have d2 : w1.cell? ⟨w.heap.size, 2, none⟩ = some (.int .i64 i.a) := (by rw [cell_of_row _ _ _ _ _ _ HIR.out]; rfl); have d3 : w1.cell? ⟨w.heap.size, 3, none⟩ = some (.int .i64 i.b) := (by rw [cell_of_row _ _ _ _ _ _ HIR.out]; rfl); have d4 : w1.cell? ⟨w.heap.size, 4, none⟩ = some (.int .i64 i.imm) := (by rw [cell_of_row _ _ _ _ _ _ HIR.out]; rfl); have d5 : w1.cell? ⟨w.heap.size, 5, none⟩ = some (.int .i64 i.csr) := (by rw [cell_of_row _ _ _ _ _ _ HIR.out]; rfl); have d6 : w1.cell? ⟨w.heap.size, 6, none⟩ = some (.bool i.aq) := (by rw [cell_of_row _ _ _ _ _ _ HIR.out]; rfl); have d7 : w1.cell? ⟨w.heap.size, 7, none⟩ = some (.bool i.rl) := (by rw [cell_of_row _ _ _ _ _ _ HIR.out]; rfl); clear hb1)
    | (go_at_call 61; (with_reducible refine (Hrd.out _).mono ?_); rintro e w3 ⟨rfl, rfl⟩)
    | (go_at_call 61; (with_reducible refine (Ha.out _).mono ?_); rintro e w3 ⟨rfl, rfl⟩)
    | (go_at_call 61; (with_reducible refine (Hb.out _).mono ?_); rintro e w3 ⟨rfl, rfl⟩)
    | (go_at_call 61; (with_reducible refine (Hcsr.out _).mono ?_); rintro e w3 ⟨rfl, rfl⟩)
    | (go_at_call 61; (with_reducible refine (Hord.out _).mono ?_); rintro e w3 ⟨rfl, rfl⟩)
    | (go_at_call 50; (with_reducible refine (refForm_14 _).mono ?_); rintro e w3 ⟨rfl, rfl⟩))
  go_ret
  exact ⟨rfl, HB1.out.alloc HB1.out.size _⟩

set_option maxHeartbeats 2000000 in
theorem right_14_aq (op : Nat) (h1 : 1 ≤ op) (h2 : op ≤ 113) (hk : frmT op = 14) (i : Ins) (hop : i.op = op) (rdl : ¬ i.rd < 0) (rdh : ¬ 31 < i.rd) (al : ¬ i.a < 0) (ah : ¬ 31 < i.a) (bl : ¬ i.b < 0) (bh : ¬ 31 < i.b) (csrl : ¬ i.csr < 0) (csrh : ¬ 4095 < i.csr) (zb : (i.b != 0) = false) (zcsr : (i.csr != 0) = false) (zaq : i.aq = true) (w : World) :
    Calls Tryz.prog 30 #[.agg #[.int .i64 i.op, .int .i64 i.rd, .int .i64 i.a, .int .i64 i.b, .int .i64 i.imm, .int .i64 i.csr, .bool i.aq, .bool i.rl]] w fun e w' => e = .returned (.bool (false)) ∧ Below w.heap.size w w' := by
  have HR : Hid (∀ w, Calls Tryz.prog 31 #[.int .i64 i.op] w fun e w' => e = .returned (.agg #[.string (nameT op), .int .u32 (mskT op), .int .u32 (matT op), .int .u8 86]) ∧ Below w.heap.size w w') := Lib.hid fun w => by rw [hop]; have h := refRow_any op h1 h2 w; rw [hk] at h; exact h
  have Hrd : Hid (∀ w, Calls Tryz.prog 61 #[.int .u8 86, .string ⟨#[85, 74, 73, 72, 87, 82, 76, 65, 67, 90, 86]⟩] w fun e w' => e = .returned (.bool true) ∧ w = w') := Lib.hid fun w => has_rd 14 (by omega) w
  have Ha : Hid (∀ w, Calls Tryz.prog 61 #[.int .u8 86, .string ⟨#[73, 72, 87, 66, 83, 70, 82, 76, 65, 67, 86]⟩] w fun e w' => e = .returned (.bool true) ∧ w = w') := Lib.hid fun w => has_a 14 (by omega) w
  have Hb : Hid (∀ w, Calls Tryz.prog 61 #[.int .u8 86, .string ⟨#[66, 83, 70, 82, 65]⟩] w fun e w' => e = .returned (.bool false) ∧ w = w') := Lib.hid fun w => has_b 14 (by omega) w
  have Hcsr : Hid (∀ w, Calls Tryz.prog 61 #[.int .u8 86, .string ⟨#[67, 90]⟩] w fun e w' => e = .returned (.bool false) ∧ w = w') := Lib.hid fun w => has_csr 14 (by omega) w
  have Hord : Hid (∀ w, Calls Tryz.prog 61 #[.int .u8 86, .string ⟨#[76, 65]⟩] w fun e w' => e = .returned (.bool false) ∧ w = w') := Lib.hid fun w => has_ord 14 (by omega) w
  have o1 : ¬ i.op < 1 := by omega
  have o2 : ¬ 113 < i.op := by omega
  clear h1 h2 hop hk
  generalize nameT op = nm at *
  generalize (mskT op : Int) = mk at *
  generalize (matT op : Int) = mt at *
  go_enter Tryz.func30, Tryz.ntmps30
  go_wp2_with (first
    | (go_at_call 31; (with_reducible refine (HR.out _).mono ?_); rintro e1 w1 ⟨rfl, hb1⟩; have HB1 : Hid (Below w.heap.size w w1) := Lib.hid (((Below.refl _ _).alloc (Nat.le_refl _) _).trans (hb1.mono (by simp))); have hs1 : w.heap.size < w1.heap.size := (by have := hb1.size; simp at this; omega); have HIR : Hid (w1.heap[w.heap.size]? = some (.cells #[.int .i64 i.op, .int .i64 i.rd, .int .i64 i.a, .int .i64 i.b, .int .i64 i.imm, .int .i64 i.csr, .bool true, .bool i.rl] 23 (0, 0))) := Lib.hid ((hb1.block _ (by simp)).trans (heap_alloc_new w _)); have d0 : w1.cell? ⟨w.heap.size, 0, none⟩ = some (.int .i64 i.op) := (by rw [cell_of_row _ _ _ _ _ _ HIR.out]; rfl); have d1 : w1.cell? ⟨w.heap.size, 1, none⟩ = some (.int .i64 i.rd) := (by rw [cell_of_row _ _ _ _ _ _ HIR.out]; rfl); have d2 : w1.cell? ⟨w.heap.size, 2, none⟩ = some (.int .i64 i.a) := (by rw [cell_of_row _ _ _ _ _ _ HIR.out]; rfl); have d3 : w1.cell? ⟨w.heap.size, 3, none⟩ = some (.int .i64 i.b) := (by rw [cell_of_row _ _ _ _ _ _ HIR.out]; rfl); have d4 : w1.cell? ⟨w.heap.size, 4, none⟩ = some (.int .i64 i.imm) := (by rw [cell_of_row _ _ _ _ _ _ HIR.out]; rfl); have d5 : w1.cell? ⟨w.heap.size, 5, none⟩ = some (.int .i64 i.csr) := (by rw [cell_of_row _ _ _ _ _ _ HIR.out]; rfl); have d6 : w1.cell? ⟨w.heap.size, 6, none⟩ = some (.bool true) := (by rw [cell_of_row _ _ _ _ _ _ HIR.out]; rfl); have d7 : w1.cell? ⟨w.heap.size, 7, none⟩ = some (.bool i.rl) := (by rw [cell_of_row _ _ _ _ _ _ HIR.out]; rfl); clear hb1)
    | (go_at_call 61; (with_reducible refine (Hrd.out _).mono ?_); rintro e w3 ⟨rfl, rfl⟩)
    | (go_at_call 61; (with_reducible refine (Ha.out _).mono ?_); rintro e w3 ⟨rfl, rfl⟩)
    | (go_at_call 61; (with_reducible refine (Hb.out _).mono ?_); rintro e w3 ⟨rfl, rfl⟩)
    | (go_at_call 61; (with_reducible refine (Hcsr.out _).mono ?_); rintro e w3 ⟨rfl, rfl⟩)
    | (go_at_call 61; (with_reducible refine (Hord.out _).mono ?_); rintro e w3 ⟨rfl, rfl⟩)
    | (go_at_call 50; (with_reducible refine (refForm_14 _).mono ?_); rintro e w3 ⟨rfl, rfl⟩))
  go_ret
  exact ⟨rfl, HB1.out.alloc HB1.out.size _⟩

set_option maxHeartbeats 2000000 in
theorem right_14_rl (op : Nat) (h1 : 1 ≤ op) (h2 : op ≤ 113) (hk : frmT op = 14) (i : Ins) (hop : i.op = op) (rdl : ¬ i.rd < 0) (rdh : ¬ 31 < i.rd) (al : ¬ i.a < 0) (ah : ¬ 31 < i.a) (bl : ¬ i.b < 0) (bh : ¬ 31 < i.b) (csrl : ¬ i.csr < 0) (csrh : ¬ 4095 < i.csr) (zb : (i.b != 0) = false) (zcsr : (i.csr != 0) = false) (zaq : i.aq = false) (zrl : i.rl = true) (w : World) :
    Calls Tryz.prog 30 #[.agg #[.int .i64 i.op, .int .i64 i.rd, .int .i64 i.a, .int .i64 i.b, .int .i64 i.imm, .int .i64 i.csr, .bool i.aq, .bool i.rl]] w fun e w' => e = .returned (.bool (false)) ∧ Below w.heap.size w w' := by
  have HR : Hid (∀ w, Calls Tryz.prog 31 #[.int .i64 i.op] w fun e w' => e = .returned (.agg #[.string (nameT op), .int .u32 (mskT op), .int .u32 (matT op), .int .u8 86]) ∧ Below w.heap.size w w') := Lib.hid fun w => by rw [hop]; have h := refRow_any op h1 h2 w; rw [hk] at h; exact h
  have Hrd : Hid (∀ w, Calls Tryz.prog 61 #[.int .u8 86, .string ⟨#[85, 74, 73, 72, 87, 82, 76, 65, 67, 90, 86]⟩] w fun e w' => e = .returned (.bool true) ∧ w = w') := Lib.hid fun w => has_rd 14 (by omega) w
  have Ha : Hid (∀ w, Calls Tryz.prog 61 #[.int .u8 86, .string ⟨#[73, 72, 87, 66, 83, 70, 82, 76, 65, 67, 86]⟩] w fun e w' => e = .returned (.bool true) ∧ w = w') := Lib.hid fun w => has_a 14 (by omega) w
  have Hb : Hid (∀ w, Calls Tryz.prog 61 #[.int .u8 86, .string ⟨#[66, 83, 70, 82, 65]⟩] w fun e w' => e = .returned (.bool false) ∧ w = w') := Lib.hid fun w => has_b 14 (by omega) w
  have Hcsr : Hid (∀ w, Calls Tryz.prog 61 #[.int .u8 86, .string ⟨#[67, 90]⟩] w fun e w' => e = .returned (.bool false) ∧ w = w') := Lib.hid fun w => has_csr 14 (by omega) w
  have Hord : Hid (∀ w, Calls Tryz.prog 61 #[.int .u8 86, .string ⟨#[76, 65]⟩] w fun e w' => e = .returned (.bool false) ∧ w = w') := Lib.hid fun w => has_ord 14 (by omega) w
  have o1 : ¬ i.op < 1 := by omega
  have o2 : ¬ 113 < i.op := by omega
  clear h1 h2 hop hk
  generalize nameT op = nm at *
  generalize (mskT op : Int) = mk at *
  generalize (matT op : Int) = mt at *
  go_enter Tryz.func30, Tryz.ntmps30
  go_wp2_with (first
    | (go_at_call 31; (with_reducible refine (HR.out _).mono ?_); rintro e1 w1 ⟨rfl, hb1⟩; have HB1 : Hid (Below w.heap.size w w1) := Lib.hid (((Below.refl _ _).alloc (Nat.le_refl _) _).trans (hb1.mono (by simp))); have hs1 : w.heap.size < w1.heap.size := (by have := hb1.size; simp at this; omega); have HIR : Hid (w1.heap[w.heap.size]? = some (.cells #[.int .i64 i.op, .int .i64 i.rd, .int .i64 i.a, .int .i64 i.b, .int .i64 i.imm, .int .i64 i.csr, .bool false, .bool true] 23 (0, 0))) := Lib.hid ((hb1.block _ (by simp)).trans (heap_alloc_new w _)); have d0 : w1.cell? ⟨w.heap.size, 0, none⟩ = some (.int .i64 i.op) := (by rw [cell_of_row _ _ _ _ _ _ HIR.out]; rfl); have d1 : w1.cell? ⟨w.heap.size, 1, none⟩ = some (.int .i64 i.rd) := (by rw [cell_of_row _ _ _ _ _ _ HIR.out]; rfl); have d2 : w1.cell? ⟨w.heap.size, 2, none⟩ = some (.int .i64 i.a) := (by rw [cell_of_row _ _ _ _ _ _ HIR.out]; rfl); have d3 : w1.cell? ⟨w.heap.size, 3, none⟩ = some (.int .i64 i.b) := (by rw [cell_of_row _ _ _ _ _ _ HIR.out]; rfl); have d4 : w1.cell? ⟨w.heap.size, 4, none⟩ = some (.int .i64 i.imm) := (by rw [cell_of_row _ _ _ _ _ _ HIR.out]; rfl); have d5 : w1.cell? ⟨w.heap.size, 5, none⟩ = some (.int .i64 i.csr) := (by rw [cell_of_row _ _ _ _ _ _ HIR.out]; rfl); have d6 : w1.cell? ⟨w.heap.size, 6, none⟩ = some (.bool false) := (by rw [cell_of_row _ _ _ _ _ _ HIR.out]; rfl); have d7 : w1.cell? ⟨w.heap.size, 7, none⟩ = some (.bool true) := (by rw [cell_of_row _ _ _ _ _ _ HIR.out]; rfl); clear hb1)
    | (go_at_call 61; (with_reducible refine (Hrd.out _).mono ?_); rintro e w3 ⟨rfl, rfl⟩)
    | (go_at_call 61; (with_reducible refine (Ha.out _).mono ?_); rintro e w3 ⟨rfl, rfl⟩)
    | (go_at_call 61; (with_reducible refine (Hb.out _).mono ?_); rintro e w3 ⟨rfl, rfl⟩)
    | (go_at_call 61; (with_reducible refine (Hcsr.out _).mono ?_); rintro e w3 ⟨rfl, rfl⟩)
    | (go_at_call 61; (with_reducible refine (Hord.out _).mono ?_); rintro e w3 ⟨rfl, rfl⟩)
    | (go_at_call 50; (with_reducible refine (refForm_14 _).mono ?_); rintro e w3 ⟨rfl, rfl⟩))
  go_ret
  exact ⟨rfl, HB1.out.alloc HB1.out.size _⟩

set_option maxHeartbeats 2000000 in
theorem right_14_end (op : Nat) (h1 : 1 ≤ op) (h2 : op ≤ 113) (hk : frmT op = 14) (i : Ins) (hop : i.op = op) (rdl : ¬ i.rd < 0) (rdh : ¬ 31 < i.rd) (al : ¬ i.a < 0) (ah : ¬ 31 < i.a) (bl : ¬ i.b < 0) (bh : ¬ 31 < i.b) (csrl : ¬ i.csr < 0) (csrh : ¬ 4095 < i.csr) (zb : (i.b != 0) = false) (zcsr : (i.csr != 0) = false) (zaq : i.aq = false) (zrl : i.rl = false) (w : World) :
    Calls Tryz.prog 30 #[.agg #[.int .i64 i.op, .int .i64 i.rd, .int .i64 i.a, .int .i64 i.b, .int .i64 i.imm, .int .i64 i.csr, .bool i.aq, .bool i.rl]] w fun e w' => e = .returned (.bool (i.imm == 0)) ∧ Below w.heap.size w w' := by
  have HR : Hid (∀ w, Calls Tryz.prog 31 #[.int .i64 i.op] w fun e w' => e = .returned (.agg #[.string (nameT op), .int .u32 (mskT op), .int .u32 (matT op), .int .u8 86]) ∧ Below w.heap.size w w') := Lib.hid fun w => by rw [hop]; have h := refRow_any op h1 h2 w; rw [hk] at h; exact h
  have Hrd : Hid (∀ w, Calls Tryz.prog 61 #[.int .u8 86, .string ⟨#[85, 74, 73, 72, 87, 82, 76, 65, 67, 90, 86]⟩] w fun e w' => e = .returned (.bool true) ∧ w = w') := Lib.hid fun w => has_rd 14 (by omega) w
  have Ha : Hid (∀ w, Calls Tryz.prog 61 #[.int .u8 86, .string ⟨#[73, 72, 87, 66, 83, 70, 82, 76, 65, 67, 86]⟩] w fun e w' => e = .returned (.bool true) ∧ w = w') := Lib.hid fun w => has_a 14 (by omega) w
  have Hb : Hid (∀ w, Calls Tryz.prog 61 #[.int .u8 86, .string ⟨#[66, 83, 70, 82, 65]⟩] w fun e w' => e = .returned (.bool false) ∧ w = w') := Lib.hid fun w => has_b 14 (by omega) w
  have Hcsr : Hid (∀ w, Calls Tryz.prog 61 #[.int .u8 86, .string ⟨#[67, 90]⟩] w fun e w' => e = .returned (.bool false) ∧ w = w') := Lib.hid fun w => has_csr 14 (by omega) w
  have Hord : Hid (∀ w, Calls Tryz.prog 61 #[.int .u8 86, .string ⟨#[76, 65]⟩] w fun e w' => e = .returned (.bool false) ∧ w = w') := Lib.hid fun w => has_ord 14 (by omega) w
  have o1 : ¬ i.op < 1 := by omega
  have o2 : ¬ 113 < i.op := by omega
  clear h1 h2 hop hk
  generalize nameT op = nm at *
  generalize (mskT op : Int) = mk at *
  generalize (matT op : Int) = mt at *
  go_enter Tryz.func30, Tryz.ntmps30
  go_wp2_with (first
    | (go_at_call 31; (with_reducible refine (HR.out _).mono ?_); rintro e1 w1 ⟨rfl, hb1⟩; have HB1 : Hid (Below w.heap.size w w1) := Lib.hid (((Below.refl _ _).alloc (Nat.le_refl _) _).trans (hb1.mono (by simp))); have hs1 : w.heap.size < w1.heap.size := (by have := hb1.size; simp at this; omega); have HIR : Hid (w1.heap[w.heap.size]? = some (.cells #[.int .i64 i.op, .int .i64 i.rd, .int .i64 i.a, .int .i64 i.b, .int .i64 i.imm, .int .i64 i.csr, .bool false, .bool false] 23 (0, 0))) := Lib.hid ((hb1.block _ (by simp)).trans (heap_alloc_new w _)); have d0 : w1.cell? ⟨w.heap.size, 0, none⟩ = some (.int .i64 i.op) := (by rw [cell_of_row _ _ _ _ _ _ HIR.out]; rfl); have d1 : w1.cell? ⟨w.heap.size, 1, none⟩ = some (.int .i64 i.rd) := (by rw [cell_of_row _ _ _ _ _ _ HIR.out]; rfl); have d2 : w1.cell? ⟨w.heap.size, 2, none⟩ = some (.int .i64 i.a) := (by rw [cell_of_row _ _ _ _ _ _ HIR.out]; rfl); have d3 : w1.cell? ⟨w.heap.size, 3, none⟩ = some (.int .i64 i.b) := (by rw [cell_of_row _ _ _ _ _ _ HIR.out]; rfl); have d4 : w1.cell? ⟨w.heap.size, 4, none⟩ = some (.int .i64 i.imm) := (by rw [cell_of_row _ _ _ _ _ _ HIR.out]; rfl); have d5 : w1.cell? ⟨w.heap.size, 5, none⟩ = some (.int .i64 i.csr) := (by rw [cell_of_row _ _ _ _ _ _ HIR.out]; rfl); have d6 : w1.cell? ⟨w.heap.size, 6, none⟩ = some (.bool false) := (by rw [cell_of_row _ _ _ _ _ _ HIR.out]; rfl); have d7 : w1.cell? ⟨w.heap.size, 7, none⟩ = some (.bool false) := (by rw [cell_of_row _ _ _ _ _ _ HIR.out]; rfl); clear hb1)
    | (go_at_call 61; (with_reducible refine (Hrd.out _).mono ?_); rintro e w3 ⟨rfl, rfl⟩)
    | (go_at_call 61; (with_reducible refine (Ha.out _).mono ?_); rintro e w3 ⟨rfl, rfl⟩)
    | (go_at_call 61; (with_reducible refine (Hb.out _).mono ?_); rintro e w3 ⟨rfl, rfl⟩)
    | (go_at_call 61; (with_reducible refine (Hcsr.out _).mono ?_); rintro e w3 ⟨rfl, rfl⟩)
    | (go_at_call 61; (with_reducible refine (Hord.out _).mono ?_); rintro e w3 ⟨rfl, rfl⟩)
    | (go_at_call 50; (with_reducible refine (refForm_14 _).mono ?_); rintro e w3 ⟨rfl, rfl⟩))
  go_ret
  exact ⟨rfl, HB1.out.alloc HB1.out.size _⟩

end Go.Proofs.YtakdhdaoklcidaaGreatDoor
