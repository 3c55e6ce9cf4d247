/- Layer 9: the document's Says. -/
import Derived.Test.YtehlihhnkojjeaaDoorDsB
import Derived.Test.YtehlihhnkojjeaaDoorDcC
namespace Go.Proofs.YtehlihhnkojjeaaDoor
open Go.RowKit
set_option linter.unusedVariables false
set_option maxRecDepth 100000

theorem rowsS {w w2 : World} {A B : Array Value} {a b : TypeId} (h : Below ((w.alloc (.cells A a)).alloc (.cells B b)).heap.size ((w.alloc (.cells A a)).alloc (.cells B b)) w2) :
    Hid (Below w.heap.size w w2) ∧ Hid (w2.heap[w.heap.size + 1]? = some (.cells B b (0, 0))) ∧ w.heap.size + 1 < w2.heap.size := by
  have s1 : (w.alloc (.cells A a)).heap.size = w.heap.size + 1 := World.size_alloc _ _
  have s2 : ((w.alloc (.cells A a)).alloc (.cells B b)).heap.size = w.heap.size + 1 + 1 := by rw [World.size_alloc, s1]
  have e1 : ((w.alloc (.cells A a)).alloc (.cells B b)).heap[w.heap.size + 1]? = some (.cells B b (0, 0)) := by
    rw [← s1]; exact heap_alloc_new _ _
  exact ⟨Lib.hid ((((Below.refl _ _).alloc (Nat.le_refl _) _).alloc (by omega) _).trans (h.mono (by omega))), Lib.hid ((h.block _ (by omega)).trans e1), by have := h.size; omega⟩

set_option maxHeartbeats 1000000 in
theorem says_0 (op : Nat) (h1 : 1 ≤ op) (h2 : op ≤ 113) (hk : frmT op = 0) (x : Int) (hx : In32 x) (w : World) :
    Calls Tryd.prog 24 #[.int .i64 op, .int .u32 x] w fun e w' => e = .returned (.agg #[.int .i64 op, .int .i64 (fldZ x 11 7), .int .i64 (0), .int .i64 (0), .int .i64 ((formL 4).number x), .int .i64 (0), .bool (false), .bool (false)]) ∧ Below w.heap.size w w' := by
  have HR : Hid (∀ w, Calls Tryd.prog 23 #[.int .i64 op] w fun e w' => e = .returned (.agg #[.string (nameT op), .int .u32 (mskT op), .int .u32 (matT op), .int .u8 85]) ∧ Below w.heap.size w w') := Lib.hid fun w => by have h := refRow_any op h1 h2 w; rw [hk] at h; exact h
  have Hrd : Hid (∀ w, Calls Tryd.prog 38 #[.int .u8 85, .string ⟨#[85, 74, 73, 72, 87, 82, 76, 65, 67, 90, 86]⟩] w fun e w' => e = .returned (.bool true) ∧ w = w') := Lib.hid fun w => has_rd 0 (by omega) w
  have Ha : Hid (∀ w, Calls Tryd.prog 38 #[.int .u8 85, .string ⟨#[73, 72, 87, 66, 83, 70, 82, 76, 65, 67, 86]⟩] w fun e w' => e = .returned (.bool false) ∧ w = w') := Lib.hid fun w => has_a 0 (by omega) w
  have Hb : Hid (∀ w, Calls Tryd.prog 38 #[.int .u8 85, .string ⟨#[66, 83, 70, 82, 65]⟩] w fun e w' => e = .returned (.bool false) ∧ w = w') := Lib.hid fun w => has_b 0 (by omega) w
  have Hcsr : Hid (∀ w, Calls Tryd.prog 38 #[.int .u8 85, .string ⟨#[67, 90]⟩] w fun e w' => e = .returned (.bool false) ∧ w = w') := Lib.hid fun w => has_csr 0 (by omega) w
  have Hord : Hid (∀ w, Calls Tryd.prog 38 #[.int .u8 85, .string ⟨#[76, 65]⟩] w fun e w' => e = .returned (.bool false) ∧ w = w') := Lib.hid fun w => has_ord 0 (by omega) w
  have HN : Hid (∀ w, Calls Tryd.prog 40 #[.int .i64 4, .int .u32 x] w fun e w' => e = .returned (.tuple #[.int .i64 ((formL 4).number x), .bool true]) ∧ Below w.heap.size w w') := Lib.hid fun w => refNumber_form 4 (by omega) x hx w
  have HX := Lib.hid hx
  have fr := fldZ_in32 x 11 7
  unfold In32 at fr
  obtain ⟨fr1, fr2⟩ := fr
  have fs := fldZ_in32 x 19 15
  unfold In32 at fs
  obtain ⟨fs1, fs2⟩ := fs
  have ft := fldZ_in32 x 24 20
  unfold In32 at ft
  obtain ⟨ft1, ft2⟩ := ft
  have fu := fldZ_in32 x 31 20
  unfold In32 at fu
  obtain ⟨fu1, fu2⟩ := fu
  generalize nameT op = nm at *
  generalize mskT op = mk at *
  generalize matT op = mt at *
  clear h1 h2 hk hx
  go_enter Tryd.func24, Tryd.ntmps24
  go_wp2_with (first
    | (go_at_call 23; (with_reducible refine (HR.out _).mono ?_); rintro e ww1 ⟨rfl, hb1⟩; have HB1 : Hid (Below w.heap.size w ww1) := Lib.hid (((Below.refl _ _).alloc (Nat.le_refl _) _).trans (hb1.mono (by simp))); have hs1 : w.heap.size < ww1.heap.size := (by have := hb1.size; simp at this; omega); have HZ1 : Hid (ww1.heap[w.heap.size]? = some (.cells #[.int .i64 0, .int .i64 0, .int .i64 0, .int .i64 0, .int .i64 0, .int .i64 0, .bool false, .bool false] 24 (0, 0))) := Lib.hid ((hb1.block _ (by simp)).trans (heap_alloc_new w _)); have HZA : Hid (∀ a b, ((ww1.alloc a).alloc b).heap[w.heap.size]? = some (.cells #[.int .i64 0, .int .i64 0, .int .i64 0, .int .i64 0, .int .i64 0, .int .i64 0, .bool false, .bool false] 24 (0, 0))) := Lib.hid (fun a b => by rw [Below.heap_alloc _ _ _ (by rw [World.size_alloc]; omega), Below.heap_alloc _ _ _ hs1]; exact HZ1.out); clear hb1)
    | (go_at_call 38; (with_reducible refine (Hrd.out _).mono ?_); rintro e w3 ⟨rfl, rfl⟩)
    | (go_at_call 38; (with_reducible refine (Ha.out _).mono ?_); rintro e w3 ⟨rfl, rfl⟩)
    | (go_at_call 38; (with_reducible refine (Hb.out _).mono ?_); rintro e w3 ⟨rfl, rfl⟩)
    | (go_at_call 38; (with_reducible refine (Hcsr.out _).mono ?_); rintro e w3 ⟨rfl, rfl⟩)
    | (go_at_call 38; (with_reducible refine (Hord.out _).mono ?_); rintro e w3 ⟨rfl, rfl⟩)
    | (go_at_call 39; (with_reducible refine (refField_any _ _ _ HX.out _).mono ?_); rintro e w3 ⟨rfl, rfl⟩)
    | (go_at_call 27; (with_reducible refine (refForm_0 _).mono ?_); rintro e w3 ⟨rfl, rfl⟩)
    | (go_at_call 40; (with_reducible refine (HN.out _).mono ?_); rintro e ww2 ⟨rfl, hb2⟩; have HZ2 : Hid (ww2.heap[w.heap.size]? = some (.cells #[.int .i64 0, .int .i64 0, .int .i64 0, .int .i64 0, .int .i64 0, .int .i64 0, .bool false, .bool false] 24 (0, 0))) := Lib.hid ((hb2.block _ (by rw [World.size_alloc, World.size_alloc]; omega)).trans (HZA.out _ _)); obtain ⟨HB2, HC2, hs2⟩ := rowsS hb2; have q0 : ww2.cell? ⟨ww1.heap.size + 1, 0, none⟩ = some (.int .i64 op) := (by rw [cell_of_row _ _ _ _ _ _ HC2.out]; rfl); have q1 : ww2.cell? ⟨ww1.heap.size + 1, 1, none⟩ = some (.int .i64 (fldZ x 11 7)) := (by rw [cell_of_row _ _ _ _ _ _ HC2.out]; rfl); have q2 : ww2.cell? ⟨ww1.heap.size + 1, 2, none⟩ = some (.int .i64 (0)) := (by rw [cell_of_row _ _ _ _ _ _ HC2.out]; rfl); have q3 : ww2.cell? ⟨ww1.heap.size + 1, 3, none⟩ = some (.int .i64 (0)) := (by rw [cell_of_row _ _ _ _ _ _ HC2.out]; rfl); have q4 : ww2.cell? ⟨ww1.heap.size + 1, 4, none⟩ = some (.int .i64 (0)) := (by rw [cell_of_row _ _ _ _ _ _ HC2.out]; rfl); have q5 : ww2.cell? ⟨ww1.heap.size + 1, 5, none⟩ = some (.int .i64 (0)) := (by rw [cell_of_row _ _ _ _ _ _ HC2.out]; rfl); have q6 : ww2.cell? ⟨ww1.heap.size + 1, 6, none⟩ = some (.bool (false)) := (by rw [cell_of_row _ _ _ _ _ _ HC2.out]; rfl); have q7 : ww2.cell? ⟨ww1.heap.size + 1, 7, none⟩ = some (.bool (false)) := (by rw [cell_of_row _ _ _ _ _ _ HC2.out]; rfl); have qf : ∀ j, ww2.frozen? ⟨ww1.heap.size + 1, j, none⟩ = false := (fun j => frozen_of_row _ _ _ _ _ HC2.out); clear hb2)
    | (refine wpList_store_row rfl _ _ _ rfl w.heap.size _ rfl rfl 24 _ ((Below.heap_setCell ww2 ⟨ww1.heap.size + 1, 4, none⟩ (.int .i64 ((formL 4).number x)) w.heap.size (by show w.heap.size ≠ ww1.heap.size + 1; omega)).trans HZ2.out) size_ins rfl (by simp [Value.oneCell']) ?_))
  exact bodyPost_ret (v := .agg #[.int .i64 op, .int .i64 (fldZ x 11 7), .int .i64 (0), .int .i64 (0), .int .i64 ((formL 4).number x), .int .i64 (0), .bool (false), .bool (false)]) (results_cell_row (show Tryd.f24.results = #[.cell 4 24] by kernel_rfl) _ _ w.heap.size 24 _ _ _ rfl (setRow_heap _ _ _ _ _ _ ((Below.heap_setCell ww2 ⟨ww1.heap.size + 1, 4, none⟩ (.int .i64 ((formL 4).number x)) w.heap.size (by show w.heap.size ≠ ww1.heap.size + 1; omega)).trans HZ2.out)) Tryd.underlying24 rfl size_ins) rfl ⟨rfl, below_setRow ((HB1.out.trans (HB2.out.mono (by omega))).setCell (by show w.heap.size ≤ ww1.heap.size + 1; omega) _) (Nat.le_refl _) _⟩

set_option maxHeartbeats 1000000 in
theorem says_1 (op : Nat) (h1 : 1 ≤ op) (h2 : op ≤ 113) (hk : frmT op = 1) (x : Int) (hx : In32 x) (w : World) :
    Calls Tryd.prog 24 #[.int .i64 op, .int .u32 x] w fun e w' => e = .returned (.agg #[.int .i64 op, .int .i64 (fldZ x 11 7), .int .i64 (0), .int .i64 (0), .int .i64 ((formL 5).number x), .int .i64 (0), .bool (false), .bool (false)]) ∧ Below w.heap.size w w' := by
  have HR : Hid (∀ w, Calls Tryd.prog 23 #[.int .i64 op] w fun e w' => e = .returned (.agg #[.string (nameT op), .int .u32 (mskT op), .int .u32 (matT op), .int .u8 74]) ∧ Below w.heap.size w w') := Lib.hid fun w => by have h := refRow_any op h1 h2 w; rw [hk] at h; exact h
  have Hrd : Hid (∀ w, Calls Tryd.prog 38 #[.int .u8 74, .string ⟨#[85, 74, 73, 72, 87, 82, 76, 65, 67, 90, 86]⟩] w fun e w' => e = .returned (.bool true) ∧ w = w') := Lib.hid fun w => has_rd 1 (by omega) w
  have Ha : Hid (∀ w, Calls Tryd.prog 38 #[.int .u8 74, .string ⟨#[73, 72, 87, 66, 83, 70, 82, 76, 65, 67, 86]⟩] w fun e w' => e = .returned (.bool false) ∧ w = w') := Lib.hid fun w => has_a 1 (by omega) w
  have Hb : Hid (∀ w, Calls Tryd.prog 38 #[.int .u8 74, .string ⟨#[66, 83, 70, 82, 65]⟩] w fun e w' => e = .returned (.bool false) ∧ w = w') := Lib.hid fun w => has_b 1 (by omega) w
  have Hcsr : Hid (∀ w, Calls Tryd.prog 38 #[.int .u8 74, .string ⟨#[67, 90]⟩] w fun e w' => e = .returned (.bool false) ∧ w = w') := Lib.hid fun w => has_csr 1 (by omega) w
  have Hord : Hid (∀ w, Calls Tryd.prog 38 #[.int .u8 74, .string ⟨#[76, 65]⟩] w fun e w' => e = .returned (.bool false) ∧ w = w') := Lib.hid fun w => has_ord 1 (by omega) w
  have HN : Hid (∀ w, Calls Tryd.prog 40 #[.int .i64 5, .int .u32 x] w fun e w' => e = .returned (.tuple #[.int .i64 ((formL 5).number x), .bool true]) ∧ Below w.heap.size w w') := Lib.hid fun w => refNumber_form 5 (by omega) x hx w
  have HX := Lib.hid hx
  have fr := fldZ_in32 x 11 7
  unfold In32 at fr
  obtain ⟨fr1, fr2⟩ := fr
  have fs := fldZ_in32 x 19 15
  unfold In32 at fs
  obtain ⟨fs1, fs2⟩ := fs
  have ft := fldZ_in32 x 24 20
  unfold In32 at ft
  obtain ⟨ft1, ft2⟩ := ft
  have fu := fldZ_in32 x 31 20
  unfold In32 at fu
  obtain ⟨fu1, fu2⟩ := fu
  generalize nameT op = nm at *
  generalize mskT op = mk at *
  generalize matT op = mt at *
  clear h1 h2 hk hx
  go_enter Tryd.func24, Tryd.ntmps24
  go_wp2_with (first
    | (go_at_call 23; (with_reducible refine (HR.out _).mono ?_); rintro e ww1 ⟨rfl, hb1⟩; have HB1 : Hid (Below w.heap.size w ww1) := Lib.hid (((Below.refl _ _).alloc (Nat.le_refl _) _).trans (hb1.mono (by simp))); have hs1 : w.heap.size < ww1.heap.size := (by have := hb1.size; simp at this; omega); have HZ1 : Hid (ww1.heap[w.heap.size]? = some (.cells #[.int .i64 0, .int .i64 0, .int .i64 0, .int .i64 0, .int .i64 0, .int .i64 0, .bool false, .bool false] 24 (0, 0))) := Lib.hid ((hb1.block _ (by simp)).trans (heap_alloc_new w _)); have HZA : Hid (∀ a b, ((ww1.alloc a).alloc b).heap[w.heap.size]? = some (.cells #[.int .i64 0, .int .i64 0, .int .i64 0, .int .i64 0, .int .i64 0, .int .i64 0, .bool false, .bool false] 24 (0, 0))) := Lib.hid (fun a b => by rw [Below.heap_alloc _ _ _ (by rw [World.size_alloc]; omega), Below.heap_alloc _ _ _ hs1]; exact HZ1.out); clear hb1)
    | (go_at_call 38; (with_reducible refine (Hrd.out _).mono ?_); rintro e w3 ⟨rfl, rfl⟩)
    | (go_at_call 38; (with_reducible refine (Ha.out _).mono ?_); rintro e w3 ⟨rfl, rfl⟩)
    | (go_at_call 38; (with_reducible refine (Hb.out _).mono ?_); rintro e w3 ⟨rfl, rfl⟩)
    | (go_at_call 38; (with_reducible refine (Hcsr.out _).mono ?_); rintro e w3 ⟨rfl, rfl⟩)
    | (go_at_call 38; (with_reducible refine (Hord.out _).mono ?_); rintro e w3 ⟨rfl, rfl⟩)
    | (go_at_call 39; (with_reducible refine (refField_any _ _ _ HX.out _).mono ?_); rintro e w3 ⟨rfl, rfl⟩)
    | (go_at_call 27; (with_reducible refine (refForm_1 _).mono ?_); rintro e w3 ⟨rfl, rfl⟩)
    | (go_at_call 40; (with_reducible refine (HN.out _).mono ?_); rintro e ww2 ⟨rfl, hb2⟩; have HZ2 : Hid (ww2.heap[w.heap.size]? = some (.cells #[.int .i64 0, .int .i64 0, .int .i64 0, .int .i64 0, .int .i64 0, .int .i64 0, .bool false, .bool false] 24 (0, 0))) := Lib.hid ((hb2.block _ (by rw [World.size_alloc, World.size_alloc]; omega)).trans (HZA.out _ _)); obtain ⟨HB2, HC2, hs2⟩ := rowsS hb2; have q0 : ww2.cell? ⟨ww1.heap.size + 1, 0, none⟩ = some (.int .i64 op) := (by rw [cell_of_row _ _ _ _ _ _ HC2.out]; rfl); have q1 : ww2.cell? ⟨ww1.heap.size + 1, 1, none⟩ = some (.int .i64 (fldZ x 11 7)) := (by rw [cell_of_row _ _ _ _ _ _ HC2.out]; rfl); have q2 : ww2.cell? ⟨ww1.heap.size + 1, 2, none⟩ = some (.int .i64 (0)) := (by rw [cell_of_row _ _ _ _ _ _ HC2.out]; rfl); have q3 : ww2.cell? ⟨ww1.heap.size + 1, 3, none⟩ = some (.int .i64 (0)) := (by rw [cell_of_row _ _ _ _ _ _ HC2.out]; rfl); have q4 : ww2.cell? ⟨ww1.heap.size + 1, 4, none⟩ = some (.int .i64 (0)) := (by rw [cell_of_row _ _ _ _ _ _ HC2.out]; rfl); have q5 : ww2.cell? ⟨ww1.heap.size + 1, 5, none⟩ = some (.int .i64 (0)) := (by rw [cell_of_row _ _ _ _ _ _ HC2.out]; rfl); have q6 : ww2.cell? ⟨ww1.heap.size + 1, 6, none⟩ = some (.bool (false)) := (by rw [cell_of_row _ _ _ _ _ _ HC2.out]; rfl); have q7 : ww2.cell? ⟨ww1.heap.size + 1, 7, none⟩ = some (.bool (false)) := (by rw [cell_of_row _ _ _ _ _ _ HC2.out]; rfl); have qf : ∀ j, ww2.frozen? ⟨ww1.heap.size + 1, j, none⟩ = false := (fun j => frozen_of_row _ _ _ _ _ HC2.out); clear hb2)
    | (refine wpList_store_row rfl _ _ _ rfl w.heap.size _ rfl rfl 24 _ ((Below.heap_setCell ww2 ⟨ww1.heap.size + 1, 4, none⟩ (.int .i64 ((formL 5).number x)) w.heap.size (by show w.heap.size ≠ ww1.heap.size + 1; omega)).trans HZ2.out) size_ins rfl (by simp [Value.oneCell']) ?_))
  exact bodyPost_ret (v := .agg #[.int .i64 op, .int .i64 (fldZ x 11 7), .int .i64 (0), .int .i64 (0), .int .i64 ((formL 5).number x), .int .i64 (0), .bool (false), .bool (false)]) (results_cell_row (show Tryd.f24.results = #[.cell 4 24] by kernel_rfl) _ _ w.heap.size 24 _ _ _ rfl (setRow_heap _ _ _ _ _ _ ((Below.heap_setCell ww2 ⟨ww1.heap.size + 1, 4, none⟩ (.int .i64 ((formL 5).number x)) w.heap.size (by show w.heap.size ≠ ww1.heap.size + 1; omega)).trans HZ2.out)) Tryd.underlying24 rfl size_ins) rfl ⟨rfl, below_setRow ((HB1.out.trans (HB2.out.mono (by omega))).setCell (by show w.heap.size ≤ ww1.heap.size + 1; omega) _) (Nat.le_refl _) _⟩

set_option maxHeartbeats 1000000 in
theorem says_2 (op : Nat) (h1 : 1 ≤ op) (h2 : op ≤ 113) (hk : frmT op = 2) (x : Int) (hx : In32 x) (w : World) :
    Calls Tryd.prog 24 #[.int .i64 op, .int .u32 x] w fun e w' => e = .returned (.agg #[.int .i64 op, .int .i64 (fldZ x 11 7), .int .i64 (fldZ x 19 15), .int .i64 (0), .int .i64 ((formL 1).number x), .int .i64 (0), .bool (false), .bool (false)]) ∧ Below w.heap.size w w' := by
  have HR : Hid (∀ w, Calls Tryd.prog 23 #[.int .i64 op] w fun e w' => e = .returned (.agg #[.string (nameT op), .int .u32 (mskT op), .int .u32 (matT op), .int .u8 73]) ∧ Below w.heap.size w w') := Lib.hid fun w => by have h := refRow_any op h1 h2 w; rw [hk] at h; exact h
  have Hrd : Hid (∀ w, Calls Tryd.prog 38 #[.int .u8 73, .string ⟨#[85, 74, 73, 72, 87, 82, 76, 65, 67, 90, 86]⟩] w fun e w' => e = .returned (.bool true) ∧ w = w') := Lib.hid fun w => has_rd 2 (by omega) w
  have Ha : Hid (∀ w, Calls Tryd.prog 38 #[.int .u8 73, .string ⟨#[73, 72, 87, 66, 83, 70, 82, 76, 65, 67, 86]⟩] w fun e w' => e = .returned (.bool true) ∧ w = w') := Lib.hid fun w => has_a 2 (by omega) w
  have Hb : Hid (∀ w, Calls Tryd.prog 38 #[.int .u8 73, .string ⟨#[66, 83, 70, 82, 65]⟩] w fun e w' => e = .returned (.bool false) ∧ w = w') := Lib.hid fun w => has_b 2 (by omega) w
  have Hcsr : Hid (∀ w, Calls Tryd.prog 38 #[.int .u8 73, .string ⟨#[67, 90]⟩] w fun e w' => e = .returned (.bool false) ∧ w = w') := Lib.hid fun w => has_csr 2 (by omega) w
  have Hord : Hid (∀ w, Calls Tryd.prog 38 #[.int .u8 73, .string ⟨#[76, 65]⟩] w fun e w' => e = .returned (.bool false) ∧ w = w') := Lib.hid fun w => has_ord 2 (by omega) w
  have HN : Hid (∀ w, Calls Tryd.prog 40 #[.int .i64 1, .int .u32 x] w fun e w' => e = .returned (.tuple #[.int .i64 ((formL 1).number x), .bool true]) ∧ Below w.heap.size w w') := Lib.hid fun w => refNumber_form 1 (by omega) x hx w
  have HX := Lib.hid hx
  have fr := fldZ_in32 x 11 7
  unfold In32 at fr
  obtain ⟨fr1, fr2⟩ := fr
  have fs := fldZ_in32 x 19 15
  unfold In32 at fs
  obtain ⟨fs1, fs2⟩ := fs
  have ft := fldZ_in32 x 24 20
  unfold In32 at ft
  obtain ⟨ft1, ft2⟩ := ft
  have fu := fldZ_in32 x 31 20
  unfold In32 at fu
  obtain ⟨fu1, fu2⟩ := fu
  generalize nameT op = nm at *
  generalize mskT op = mk at *
  generalize matT op = mt at *
  clear h1 h2 hk hx
  go_enter Tryd.func24, Tryd.ntmps24
  go_wp2_with (first
    | (go_at_call 23; (with_reducible refine (HR.out _).mono ?_); rintro e ww1 ⟨rfl, hb1⟩; have HB1 : Hid (Below w.heap.size w ww1) := Lib.hid (((Below.refl _ _).alloc (Nat.le_refl _) _).trans (hb1.mono (by simp))); have hs1 : w.heap.size < ww1.heap.size := (by have := hb1.size; simp at this; omega); have HZ1 : Hid (ww1.heap[w.heap.size]? = some (.cells #[.int .i64 0, .int .i64 0, .int .i64 0, .int .i64 0, .int .i64 0, .int .i64 0, .bool false, .bool false] 24 (0, 0))) := Lib.hid ((hb1.block _ (by simp)).trans (heap_alloc_new w _)); have HZA : Hid (∀ a b, ((ww1.alloc a).alloc b).heap[w.heap.size]? = some (.cells #[.int .i64 0, .int .i64 0, .int .i64 0, .int .i64 0, .int .i64 0, .int .i64 0, .bool false, .bool false] 24 (0, 0))) := Lib.hid (fun a b => by rw [Below.heap_alloc _ _ _ (by rw [World.size_alloc]; omega), Below.heap_alloc _ _ _ hs1]; exact HZ1.out); clear hb1)
    | (go_at_call 38; (with_reducible refine (Hrd.out _).mono ?_); rintro e w3 ⟨rfl, rfl⟩)
    | (go_at_call 38; (with_reducible refine (Ha.out _).mono ?_); rintro e w3 ⟨rfl, rfl⟩)
    | (go_at_call 38; (with_reducible refine (Hb.out _).mono ?_); rintro e w3 ⟨rfl, rfl⟩)
    | (go_at_call 38; (with_reducible refine (Hcsr.out _).mono ?_); rintro e w3 ⟨rfl, rfl⟩)
    | (go_at_call 38; (with_reducible refine (Hord.out _).mono ?_); rintro e w3 ⟨rfl, rfl⟩)
    | (go_at_call 39; (with_reducible refine (refField_any _ _ _ HX.out _).mono ?_); rintro e w3 ⟨rfl, rfl⟩)
    | (go_at_call 27; (with_reducible refine (refForm_2 _).mono ?_); rintro e w3 ⟨rfl, rfl⟩)
    | (go_at_call 40; (with_reducible refine (HN.out _).mono ?_); rintro e ww2 ⟨rfl, hb2⟩; have HZ2 : Hid (ww2.heap[w.heap.size]? = some (.cells #[.int .i64 0, .int .i64 0, .int .i64 0, .int .i64 0, .int .i64 0, .int .i64 0, .bool false, .bool false] 24 (0, 0))) := Lib.hid ((hb2.block _ (by rw [World.size_alloc, World.size_alloc]; omega)).trans (HZA.out _ _)); obtain ⟨HB2, HC2, hs2⟩ := rowsS hb2; have q0 : ww2.cell? ⟨ww1.heap.size + 1, 0, none⟩ = some (.int .i64 op) := (by rw [cell_of_row _ _ _ _ _ _ HC2.out]; rfl); have q1 : ww2.cell? ⟨ww1.heap.size + 1, 1, none⟩ = some (.int .i64 (fldZ x 11 7)) := (by rw [cell_of_row _ _ _ _ _ _ HC2.out]; rfl); have q2 : ww2.cell? ⟨ww1.heap.size + 1, 2, none⟩ = some (.int .i64 (fldZ x 19 15)) := (by rw [cell_of_row _ _ _ _ _ _ HC2.out]; rfl); have q3 : ww2.cell? ⟨ww1.heap.size + 1, 3, none⟩ = some (.int .i64 (0)) := (by rw [cell_of_row _ _ _ _ _ _ HC2.out]; rfl); have q4 : ww2.cell? ⟨ww1.heap.size + 1, 4, none⟩ = some (.int .i64 (0)) := (by rw [cell_of_row _ _ _ _ _ _ HC2.out]; rfl); have q5 : ww2.cell? ⟨ww1.heap.size + 1, 5, none⟩ = some (.int .i64 (0)) := (by rw [cell_of_row _ _ _ _ _ _ HC2.out]; rfl); have q6 : ww2.cell? ⟨ww1.heap.size + 1, 6, none⟩ = some (.bool (false)) := (by rw [cell_of_row _ _ _ _ _ _ HC2.out]; rfl); have q7 : ww2.cell? ⟨ww1.heap.size + 1, 7, none⟩ = some (.bool (false)) := (by rw [cell_of_row _ _ _ _ _ _ HC2.out]; rfl); have qf : ∀ j, ww2.frozen? ⟨ww1.heap.size + 1, j, none⟩ = false := (fun j => frozen_of_row _ _ _ _ _ HC2.out); clear hb2)
    | (refine wpList_store_row rfl _ _ _ rfl w.heap.size _ rfl rfl 24 _ ((Below.heap_setCell ww2 ⟨ww1.heap.size + 1, 4, none⟩ (.int .i64 ((formL 1).number x)) w.heap.size (by show w.heap.size ≠ ww1.heap.size + 1; omega)).trans HZ2.out) size_ins rfl (by simp [Value.oneCell']) ?_))
  exact bodyPost_ret (v := .agg #[.int .i64 op, .int .i64 (fldZ x 11 7), .int .i64 (fldZ x 19 15), .int .i64 (0), .int .i64 ((formL 1).number x), .int .i64 (0), .bool (false), .bool (false)]) (results_cell_row (show Tryd.f24.results = #[.cell 4 24] by kernel_rfl) _ _ w.heap.size 24 _ _ _ rfl (setRow_heap _ _ _ _ _ _ ((Below.heap_setCell ww2 ⟨ww1.heap.size + 1, 4, none⟩ (.int .i64 ((formL 1).number x)) w.heap.size (by show w.heap.size ≠ ww1.heap.size + 1; omega)).trans HZ2.out)) Tryd.underlying24 rfl size_ins) rfl ⟨rfl, below_setRow ((HB1.out.trans (HB2.out.mono (by omega))).setCell (by show w.heap.size ≤ ww1.heap.size + 1; omega) _) (Nat.le_refl _) _⟩

set_option maxHeartbeats 1000000 in
theorem says_3 (op : Nat) (h1 : 1 ≤ op) (h2 : op ≤ 113) (hk : frmT op = 3) (x : Int) (hx : In32 x) (w : World) :
    Calls Tryd.prog 24 #[.int .i64 op, .int .u32 x] w fun e w' => e = .returned (.agg #[.int .i64 op, .int .i64 (0), .int .i64 (fldZ x 19 15), .int .i64 (fldZ x 24 20), .int .i64 ((formL 3).number x), .int .i64 (0), .bool (false), .bool (false)]) ∧ Below w.heap.size w w' := by
  have HR : Hid (∀ w, Calls Tryd.prog 23 #[.int .i64 op] w fun e w' => e = .returned (.agg #[.string (nameT op), .int .u32 (mskT op), .int .u32 (matT op), .int .u8 66]) ∧ Below w.heap.size w w') := Lib.hid fun w => by have h := refRow_any op h1 h2 w; rw [hk] at h; exact h
  have Hrd : Hid (∀ w, Calls Tryd.prog 38 #[.int .u8 66, .string ⟨#[85, 74, 73, 72, 87, 82, 76, 65, 67, 90, 86]⟩] w fun e w' => e = .returned (.bool false) ∧ w = w') := Lib.hid fun w => has_rd 3 (by omega) w
  have Ha : Hid (∀ w, Calls Tryd.prog 38 #[.int .u8 66, .string ⟨#[73, 72, 87, 66, 83, 70, 82, 76, 65, 67, 86]⟩] w fun e w' => e = .returned (.bool true) ∧ w = w') := Lib.hid fun w => has_a 3 (by omega) w
  have Hb : Hid (∀ w, Calls Tryd.prog 38 #[.int .u8 66, .string ⟨#[66, 83, 70, 82, 65]⟩] w fun e w' => e = .returned (.bool true) ∧ w = w') := Lib.hid fun w => has_b 3 (by omega) w
  have Hcsr : Hid (∀ w, Calls Tryd.prog 38 #[.int .u8 66, .string ⟨#[67, 90]⟩] w fun e w' => e = .returned (.bool false) ∧ w = w') := Lib.hid fun w => has_csr 3 (by omega) w
  have Hord : Hid (∀ w, Calls Tryd.prog 38 #[.int .u8 66, .string ⟨#[76, 65]⟩] w fun e w' => e = .returned (.bool false) ∧ w = w') := Lib.hid fun w => has_ord 3 (by omega) w
  have HN : Hid (∀ w, Calls Tryd.prog 40 #[.int .i64 3, .int .u32 x] w fun e w' => e = .returned (.tuple #[.int .i64 ((formL 3).number x), .bool true]) ∧ Below w.heap.size w w') := Lib.hid fun w => refNumber_form 3 (by omega) x hx w
  have HX := Lib.hid hx
  have fr := fldZ_in32 x 11 7
  unfold In32 at fr
  obtain ⟨fr1, fr2⟩ := fr
  have fs := fldZ_in32 x 19 15
  unfold In32 at fs
  obtain ⟨fs1, fs2⟩ := fs
  have ft := fldZ_in32 x 24 20
  unfold In32 at ft
  obtain ⟨ft1, ft2⟩ := ft
  have fu := fldZ_in32 x 31 20
  unfold In32 at fu
  obtain ⟨fu1, fu2⟩ := fu
  generalize nameT op = nm at *
  generalize mskT op = mk at *
  generalize matT op = mt at *
  clear h1 h2 hk hx
  go_enter Tryd.func24, Tryd.ntmps24
  go_wp2_with (first
    | (go_at_call 23; (with_reducible refine (HR.out _).mono ?_); rintro e ww1 ⟨rfl, hb1⟩; have HB1 : Hid (Below w.heap.size w ww1) := Lib.hid (((Below.refl _ _).alloc (Nat.le_refl _) _).trans (hb1.mono (by simp))); have hs1 : w.heap.size < ww1.heap.size := (by have := hb1.size; simp at this; omega); have HZ1 : Hid (ww1.heap[w.heap.size]? = some (.cells #[.int .i64 0, .int .i64 0, .int .i64 0, .int .i64 0, .int .i64 0, .int .i64 0, .bool false, .bool false] 24 (0, 0))) := Lib.hid ((hb1.block _ (by simp)).trans (heap_alloc_new w _)); have HZA : Hid (∀ a b, ((ww1.alloc a).alloc b).heap[w.heap.size]? = some (.cells #[.int .i64 0, .int .i64 0, .int .i64 0, .int .i64 0, .int .i64 0, .int .i64 0, .bool false, .bool false] 24 (0, 0))) := Lib.hid (fun a b => by rw [Below.heap_alloc _ _ _ (by rw [World.size_alloc]; omega), Below.heap_alloc _ _ _ hs1]; exact HZ1.out); clear hb1)
    | (go_at_call 38; (with_reducible refine (Hrd.out _).mono ?_); rintro e w3 ⟨rfl, rfl⟩)
    | (go_at_call 38; (with_reducible refine (Ha.out _).mono ?_); rintro e w3 ⟨rfl, rfl⟩)
    | (go_at_call 38; (with_reducible refine (Hb.out _).mono ?_); rintro e w3 ⟨rfl, rfl⟩)
    | (go_at_call 38; (with_reducible refine (Hcsr.out _).mono ?_); rintro e w3 ⟨rfl, rfl⟩)
    | (go_at_call 38; (with_reducible refine (Hord.out _).mono ?_); rintro e w3 ⟨rfl, rfl⟩)
    | (go_at_call 39; (with_reducible refine (refField_any _ _ _ HX.out _).mono ?_); rintro e w3 ⟨rfl, rfl⟩)
    | (go_at_call 27; (with_reducible refine (refForm_3 _).mono ?_); rintro e w3 ⟨rfl, rfl⟩)
    | (go_at_call 40; (with_reducible refine (HN.out _).mono ?_); rintro e ww2 ⟨rfl, hb2⟩; have HZ2 : Hid (ww2.heap[w.heap.size]? = some (.cells #[.int .i64 0, .int .i64 0, .int .i64 0, .int .i64 0, .int .i64 0, .int .i64 0, .bool false, .bool false] 24 (0, 0))) := Lib.hid ((hb2.block _ (by rw [World.size_alloc, World.size_alloc]; omega)).trans (HZA.out _ _)); obtain ⟨HB2, HC2, hs2⟩ := rowsS hb2; have q0 : ww2.cell? ⟨ww1.heap.size + 1, 0, none⟩ = some (.int .i64 op) := (by rw [cell_of_row _ _ _ _ _ _ HC2.out]; rfl); have q1 : ww2.cell? ⟨ww1.heap.size + 1, 1, none⟩ = some (.int .i64 (0)) := (by rw [cell_of_row _ _ _ _ _ _ HC2.out]; rfl); have q2 : ww2.cell? ⟨ww1.heap.size + 1, 2, none⟩ = some (.int .i64 (fldZ x 19 15)) := (by rw [cell_of_row _ _ _ _ _ _ HC2.out]; rfl); have q3 : ww2.cell? ⟨ww1.heap.size + 1, 3, none⟩ = some (.int .i64 (fldZ x 24 20)) := (by rw [cell_of_row _ _ _ _ _ _ HC2.out]; rfl); have q4 : ww2.cell? ⟨ww1.heap.size + 1, 4, none⟩ = some (.int .i64 (0)) := (by rw [cell_of_row _ _ _ _ _ _ HC2.out]; rfl); have q5 : ww2.cell? ⟨ww1.heap.size + 1, 5, none⟩ = some (.int .i64 (0)) := (by rw [cell_of_row _ _ _ _ _ _ HC2.out]; rfl); have q6 : ww2.cell? ⟨ww1.heap.size + 1, 6, none⟩ = some (.bool (false)) := (by rw [cell_of_row _ _ _ _ _ _ HC2.out]; rfl); have q7 : ww2.cell? ⟨ww1.heap.size + 1, 7, none⟩ = some (.bool (false)) := (by rw [cell_of_row _ _ _ _ _ _ HC2.out]; rfl); have qf : ∀ j, ww2.frozen? ⟨ww1.heap.size + 1, j, none⟩ = false := (fun j => frozen_of_row _ _ _ _ _ HC2.out); clear hb2)
    | (refine wpList_store_row rfl _ _ _ rfl w.heap.size _ rfl rfl 24 _ ((Below.heap_setCell ww2 ⟨ww1.heap.size + 1, 4, none⟩ (.int .i64 ((formL 3).number x)) w.heap.size (by show w.heap.size ≠ ww1.heap.size + 1; omega)).trans HZ2.out) size_ins rfl (by simp [Value.oneCell']) ?_))
  exact bodyPost_ret (v := .agg #[.int .i64 op, .int .i64 (0), .int .i64 (fldZ x 19 15), .int .i64 (fldZ x 24 20), .int .i64 ((formL 3).number x), .int .i64 (0), .bool (false), .bool (false)]) (results_cell_row (show Tryd.f24.results = #[.cell 4 24] by kernel_rfl) _ _ w.heap.size 24 _ _ _ rfl (setRow_heap _ _ _ _ _ _ ((Below.heap_setCell ww2 ⟨ww1.heap.size + 1, 4, none⟩ (.int .i64 ((formL 3).number x)) w.heap.size (by show w.heap.size ≠ ww1.heap.size + 1; omega)).trans HZ2.out)) Tryd.underlying24 rfl size_ins) rfl ⟨rfl, below_setRow ((HB1.out.trans (HB2.out.mono (by omega))).setCell (by show w.heap.size ≤ ww1.heap.size + 1; omega) _) (Nat.le_refl _) _⟩

set_option maxHeartbeats 1000000 in
theorem says_4 (op : Nat) (h1 : 1 ≤ op) (h2 : op ≤ 113) (hk : frmT op = 4) (x : Int) (hx : In32 x) (w : World) :
    Calls Tryd.prog 24 #[.int .i64 op, .int .u32 x] w fun e w' => e = .returned (.agg #[.int .i64 op, .int .i64 (0), .int .i64 (fldZ x 19 15), .int .i64 (fldZ x 24 20), .int .i64 ((formL 2).number x), .int .i64 (0), .bool (false), .bool (false)]) ∧ Below w.heap.size w w' := by
  have HR : Hid (∀ w, Calls Tryd.prog 23 #[.int .i64 op] w fun e w' => e = .returned (.agg #[.string (nameT op), .int .u32 (mskT op), .int .u32 (matT op), .int .u8 83]) ∧ Below w.heap.size w w') := Lib.hid fun w => by have h := refRow_any op h1 h2 w; rw [hk] at h; exact h
  have Hrd : Hid (∀ w, Calls Tryd.prog 38 #[.int .u8 83, .string ⟨#[85, 74, 73, 72, 87, 82, 76, 65, 67, 90, 86]⟩] w fun e w' => e = .returned (.bool false) ∧ w = w') := Lib.hid fun w => has_rd 4 (by omega) w
  have Ha : Hid (∀ w, Calls Tryd.prog 38 #[.int .u8 83, .string ⟨#[73, 72, 87, 66, 83, 70, 82, 76, 65, 67, 86]⟩] w fun e w' => e = .returned (.bool true) ∧ w = w') := Lib.hid fun w => has_a 4 (by omega) w
  have Hb : Hid (∀ w, Calls Tryd.prog 38 #[.int .u8 83, .string ⟨#[66, 83, 70, 82, 65]⟩] w fun e w' => e = .returned (.bool true) ∧ w = w') := Lib.hid fun w => has_b 4 (by omega) w
  have Hcsr : Hid (∀ w, Calls Tryd.prog 38 #[.int .u8 83, .string ⟨#[67, 90]⟩] w fun e w' => e = .returned (.bool false) ∧ w = w') := Lib.hid fun w => has_csr 4 (by omega) w
  have Hord : Hid (∀ w, Calls Tryd.prog 38 #[.int .u8 83, .string ⟨#[76, 65]⟩] w fun e w' => e = .returned (.bool false) ∧ w = w') := Lib.hid fun w => has_ord 4 (by omega) w
  have HN : Hid (∀ w, Calls Tryd.prog 40 #[.int .i64 2, .int .u32 x] w fun e w' => e = .returned (.tuple #[.int .i64 ((formL 2).number x), .bool true]) ∧ Below w.heap.size w w') := Lib.hid fun w => refNumber_form 2 (by omega) x hx w
  have HX := Lib.hid hx
  have fr := fldZ_in32 x 11 7
  unfold In32 at fr
  obtain ⟨fr1, fr2⟩ := fr
  have fs := fldZ_in32 x 19 15
  unfold In32 at fs
  obtain ⟨fs1, fs2⟩ := fs
  have ft := fldZ_in32 x 24 20
  unfold In32 at ft
  obtain ⟨ft1, ft2⟩ := ft
  have fu := fldZ_in32 x 31 20
  unfold In32 at fu
  obtain ⟨fu1, fu2⟩ := fu
  generalize nameT op = nm at *
  generalize mskT op = mk at *
  generalize matT op = mt at *
  clear h1 h2 hk hx
  go_enter Tryd.func24, Tryd.ntmps24
  go_wp2_with (first
    | (go_at_call 23; (with_reducible refine (HR.out _).mono ?_); rintro e ww1 ⟨rfl, hb1⟩; have HB1 : Hid (Below w.heap.size w ww1) := Lib.hid (((Below.refl _ _).alloc (Nat.le_refl _) _).trans (hb1.mono (by simp))); have hs1 : w.heap.size < ww1.heap.size := (by have := hb1.size; simp at this; omega); have HZ1 : Hid (ww1.heap[w.heap.size]? = some (.cells #[.int .i64 0, .int .i64 0, .int .i64 0, .int .i64 0, .int .i64 0, .int .i64 0, .bool false, .bool false] 24 (0, 0))) := Lib.hid ((hb1.block _ (by simp)).trans (heap_alloc_new w _)); have HZA : Hid (∀ a b, ((ww1.alloc a).alloc b).heap[w.heap.size]? = some (.cells #[.int .i64 0, .int .i64 0, .int .i64 0, .int .i64 0, .int .i64 0, .int .i64 0, .bool false, .bool false] 24 (0, 0))) := Lib.hid (fun a b => by rw [Below.heap_alloc _ _ _ (by rw [World.size_alloc]; omega), Below.heap_alloc _ _ _ hs1]; exact HZ1.out); clear hb1)
    | (go_at_call 38; (with_reducible refine (Hrd.out _).mono ?_); rintro e w3 ⟨rfl, rfl⟩)
    | (go_at_call 38; (with_reducible refine (Ha.out _).mono ?_); rintro e w3 ⟨rfl, rfl⟩)
    | (go_at_call 38; (with_reducible refine (Hb.out _).mono ?_); rintro e w3 ⟨rfl, rfl⟩)
    | (go_at_call 38; (with_reducible refine (Hcsr.out _).mono ?_); rintro e w3 ⟨rfl, rfl⟩)
    | (go_at_call 38; (with_reducible refine (Hord.out _).mono ?_); rintro e w3 ⟨rfl, rfl⟩)
    | (go_at_call 39; (with_reducible refine (refField_any _ _ _ HX.out _).mono ?_); rintro e w3 ⟨rfl, rfl⟩)
    | (go_at_call 27; (with_reducible refine (refForm_4 _).mono ?_); rintro e w3 ⟨rfl, rfl⟩)
    | (go_at_call 40; (with_reducible refine (HN.out _).mono ?_); rintro e ww2 ⟨rfl, hb2⟩; have HZ2 : Hid (ww2.heap[w.heap.size]? = some (.cells #[.int .i64 0, .int .i64 0, .int .i64 0, .int .i64 0, .int .i64 0, .int .i64 0, .bool false, .bool false] 24 (0, 0))) := Lib.hid ((hb2.block _ (by rw [World.size_alloc, World.size_alloc]; omega)).trans (HZA.out _ _)); obtain ⟨HB2, HC2, hs2⟩ := rowsS hb2; have q0 : ww2.cell? ⟨ww1.heap.size + 1, 0, none⟩ = some (.int .i64 op) := (by rw [cell_of_row _ _ _ _ _ _ HC2.out]; rfl); have q1 : ww2.cell? ⟨ww1.heap.size + 1, 1, none⟩ = some (.int .i64 (0)) := (by rw [cell_of_row _ _ _ _ _ _ HC2.out]; rfl); have q2 : ww2.cell? ⟨ww1.heap.size + 1, 2, none⟩ = some (.int .i64 (fldZ x 19 15)) := (by rw [cell_of_row _ _ _ _ _ _ HC2.out]; rfl); have q3 : ww2.cell? ⟨ww1.heap.size + 1, 3, none⟩ = some (.int .i64 (fldZ x 24 20)) := (by rw [cell_of_row _ _ _ _ _ _ HC2.out]; rfl); have q4 : ww2.cell? ⟨ww1.heap.size + 1, 4, none⟩ = some (.int .i64 (0)) := (by rw [cell_of_row _ _ _ _ _ _ HC2.out]; rfl); have q5 : ww2.cell? ⟨ww1.heap.size + 1, 5, none⟩ = some (.int .i64 (0)) := (by rw [cell_of_row _ _ _ _ _ _ HC2.out]; rfl); have q6 : ww2.cell? ⟨ww1.heap.size + 1, 6, none⟩ = some (.bool (false)) := (by rw [cell_of_row _ _ _ _ _ _ HC2.out]; rfl); have q7 : ww2.cell? ⟨ww1.heap.size + 1, 7, none⟩ = some (.bool (false)) := (by rw [cell_of_row _ _ _ _ _ _ HC2.out]; rfl); have qf : ∀ j, ww2.frozen? ⟨ww1.heap.size + 1, j, none⟩ = false := (fun j => frozen_of_row _ _ _ _ _ HC2.out); clear hb2)
    | (refine wpList_store_row rfl _ _ _ rfl w.heap.size _ rfl rfl 24 _ ((Below.heap_setCell ww2 ⟨ww1.heap.size + 1, 4, none⟩ (.int .i64 ((formL 2).number x)) w.heap.size (by show w.heap.size ≠ ww1.heap.size + 1; omega)).trans HZ2.out) size_ins rfl (by simp [Value.oneCell']) ?_))
  exact bodyPost_ret (v := .agg #[.int .i64 op, .int .i64 (0), .int .i64 (fldZ x 19 15), .int .i64 (fldZ x 24 20), .int .i64 ((formL 2).number x), .int .i64 (0), .bool (false), .bool (false)]) (results_cell_row (show Tryd.f24.results = #[.cell 4 24] by kernel_rfl) _ _ w.heap.size 24 _ _ _ rfl (setRow_heap _ _ _ _ _ _ ((Below.heap_setCell ww2 ⟨ww1.heap.size + 1, 4, none⟩ (.int .i64 ((formL 2).number x)) w.heap.size (by show w.heap.size ≠ ww1.heap.size + 1; omega)).trans HZ2.out)) Tryd.underlying24 rfl size_ins) rfl ⟨rfl, below_setRow ((HB1.out.trans (HB2.out.mono (by omega))).setCell (by show w.heap.size ≤ ww1.heap.size + 1; omega) _) (Nat.le_refl _) _⟩

set_option maxHeartbeats 1000000 in
theorem says_5 (op : Nat) (h1 : 1 ≤ op) (h2 : op ≤ 113) (hk : frmT op = 5) (x : Int) (hx : In32 x) (w : World) :
    Calls Tryd.prog 24 #[.int .i64 op, .int .u32 x] w fun e w' => e = .returned (.agg #[.int .i64 op, .int .i64 (fldZ x 11 7), .int .i64 (fldZ x 19 15), .int .i64 (0), .int .i64 ((formL 6).number x), .int .i64 (0), .bool (false), .bool (false)]) ∧ Below w.heap.size w w' := by
  have HR : Hid (∀ w, Calls Tryd.prog 23 #[.int .i64 op] w fun e w' => e = .returned (.agg #[.string (nameT op), .int .u32 (mskT op), .int .u32 (matT op), .int .u8 72]) ∧ Below w.heap.size w w') := Lib.hid fun w => by have h := refRow_any op h1 h2 w; rw [hk] at h; exact h
  have Hrd : Hid (∀ w, Calls Tryd.prog 38 #[.int .u8 72, .string ⟨#[85, 74, 73, 72, 87, 82, 76, 65, 67, 90, 86]⟩] w fun e w' => e = .returned (.bool true) ∧ w = w') := Lib.hid fun w => has_rd 5 (by omega) w
  have Ha : Hid (∀ w, Calls Tryd.prog 38 #[.int .u8 72, .string ⟨#[73, 72, 87, 66, 83, 70, 82, 76, 65, 67, 86]⟩] w fun e w' => e = .returned (.bool true) ∧ w = w') := Lib.hid fun w => has_a 5 (by omega) w
  have Hb : Hid (∀ w, Calls Tryd.prog 38 #[.int .u8 72, .string ⟨#[66, 83, 70, 82, 65]⟩] w fun e w' => e = .returned (.bool false) ∧ w = w') := Lib.hid fun w => has_b 5 (by omega) w
  have Hcsr : Hid (∀ w, Calls Tryd.prog 38 #[.int .u8 72, .string ⟨#[67, 90]⟩] w fun e w' => e = .returned (.bool false) ∧ w = w') := Lib.hid fun w => has_csr 5 (by omega) w
  have Hord : Hid (∀ w, Calls Tryd.prog 38 #[.int .u8 72, .string ⟨#[76, 65]⟩] w fun e w' => e = .returned (.bool false) ∧ w = w') := Lib.hid fun w => has_ord 5 (by omega) w
  have HN : Hid (∀ w, Calls Tryd.prog 40 #[.int .i64 6, .int .u32 x] w fun e w' => e = .returned (.tuple #[.int .i64 ((formL 6).number x), .bool true]) ∧ Below w.heap.size w w') := Lib.hid fun w => refNumber_form 6 (by omega) x hx w
  have HX := Lib.hid hx
  have fr := fldZ_in32 x 11 7
  unfold In32 at fr
  obtain ⟨fr1, fr2⟩ := fr
  have fs := fldZ_in32 x 19 15
  unfold In32 at fs
  obtain ⟨fs1, fs2⟩ := fs
  have ft := fldZ_in32 x 24 20
  unfold In32 at ft
  obtain ⟨ft1, ft2⟩ := ft
  have fu := fldZ_in32 x 31 20
  unfold In32 at fu
  obtain ⟨fu1, fu2⟩ := fu
  generalize nameT op = nm at *
  generalize mskT op = mk at *
  generalize matT op = mt at *
  clear h1 h2 hk hx
  go_enter Tryd.func24, Tryd.ntmps24
  go_wp2_with (first
    | (go_at_call 23; (with_reducible refine (HR.out _).mono ?_); rintro e ww1 ⟨rfl, hb1⟩; have HB1 : Hid (Below w.heap.size w ww1) := Lib.hid (((Below.refl _ _).alloc (Nat.le_refl _) _).trans (hb1.mono (by simp))); have hs1 : w.heap.size < ww1.heap.size := (by have := hb1.size; simp at this; omega); have HZ1 : Hid (ww1.heap[w.heap.size]? = some (.cells #[.int .i64 0, .int .i64 0, .int .i64 0, .int .i64 0, .int .i64 0, .int .i64 0, .bool false, .bool false] 24 (0, 0))) := Lib.hid ((hb1.block _ (by simp)).trans (heap_alloc_new w _)); have HZA : Hid (∀ a b, ((ww1.alloc a).alloc b).heap[w.heap.size]? = some (.cells #[.int .i64 0, .int .i64 0, .int .i64 0, .int .i64 0, .int .i64 0, .int .i64 0, .bool false, .bool false] 24 (0, 0))) := Lib.hid (fun a b => by rw [Below.heap_alloc _ _ _ (by rw [World.size_alloc]; omega), Below.heap_alloc _ _ _ hs1]; exact HZ1.out); clear hb1)
    | (go_at_call 38; (with_reducible refine (Hrd.out _).mono ?_); rintro e w3 ⟨rfl, rfl⟩)
    | (go_at_call 38; (with_reducible refine (Ha.out _).mono ?_); rintro e w3 ⟨rfl, rfl⟩)
    | (go_at_call 38; (with_reducible refine (Hb.out _).mono ?_); rintro e w3 ⟨rfl, rfl⟩)
    | (go_at_call 38; (with_reducible refine (Hcsr.out _).mono ?_); rintro e w3 ⟨rfl, rfl⟩)
    | (go_at_call 38; (with_reducible refine (Hord.out _).mono ?_); rintro e w3 ⟨rfl, rfl⟩)
    | (go_at_call 39; (with_reducible refine (refField_any _ _ _ HX.out _).mono ?_); rintro e w3 ⟨rfl, rfl⟩)
    | (go_at_call 27; (with_reducible refine (refForm_5 _).mono ?_); rintro e w3 ⟨rfl, rfl⟩)
    | (go_at_call 40; (with_reducible refine (HN.out _).mono ?_); rintro e ww2 ⟨rfl, hb2⟩; have HZ2 : Hid (ww2.heap[w.heap.size]? = some (.cells #[.int .i64 0, .int .i64 0, .int .i64 0, .int .i64 0, .int .i64 0, .int .i64 0, .bool false, .bool false] 24 (0, 0))) := Lib.hid ((hb2.block _ (by rw [World.size_alloc, World.size_alloc]; omega)).trans (HZA.out _ _)); obtain ⟨HB2, HC2, hs2⟩ := rowsS hb2; have q0 : ww2.cell? ⟨ww1.heap.size + 1, 0, none⟩ = some (.int .i64 op) := (by rw [cell_of_row _ _ _ _ _ _ HC2.out]; rfl); have q1 : ww2.cell? ⟨ww1.heap.size + 1, 1, none⟩ = some (.int .i64 (fldZ x 11 7)) := (by rw [cell_of_row _ _ _ _ _ _ HC2.out]; rfl); have q2 : ww2.cell? ⟨ww1.heap.size + 1, 2, none⟩ = some (.int .i64 (fldZ x 19 15)) := (by rw [cell_of_row _ _ _ _ _ _ HC2.out]; rfl); have q3 : ww2.cell? ⟨ww1.heap.size + 1, 3, none⟩ = some (.int .i64 (0)) := (by rw [cell_of_row _ _ _ _ _ _ HC2.out]; rfl); have q4 : ww2.cell? ⟨ww1.heap.size + 1, 4, none⟩ = some (.int .i64 (0)) := (by rw [cell_of_row _ _ _ _ _ _ HC2.out]; rfl); have q5 : ww2.cell? ⟨ww1.heap.size + 1, 5, none⟩ = some (.int .i64 (0)) := (by rw [cell_of_row _ _ _ _ _ _ HC2.out]; rfl); have q6 : ww2.cell? ⟨ww1.heap.size + 1, 6, none⟩ = some (.bool (false)) := (by rw [cell_of_row _ _ _ _ _ _ HC2.out]; rfl); have q7 : ww2.cell? ⟨ww1.heap.size + 1, 7, none⟩ = some (.bool (false)) := (by rw [cell_of_row _ _ _ _ _ _ HC2.out]; rfl); have qf : ∀ j, ww2.frozen? ⟨ww1.heap.size + 1, j, none⟩ = false := (fun j => frozen_of_row _ _ _ _ _ HC2.out); clear hb2)
    | (refine wpList_store_row rfl _ _ _ rfl w.heap.size _ rfl rfl 24 _ ((Below.heap_setCell ww2 ⟨ww1.heap.size + 1, 4, none⟩ (.int .i64 ((formL 6).number x)) w.heap.size (by show w.heap.size ≠ ww1.heap.size + 1; omega)).trans HZ2.out) size_ins rfl (by simp [Value.oneCell']) ?_))
  exact bodyPost_ret (v := .agg #[.int .i64 op, .int .i64 (fldZ x 11 7), .int .i64 (fldZ x 19 15), .int .i64 (0), .int .i64 ((formL 6).number x), .int .i64 (0), .bool (false), .bool (false)]) (results_cell_row (show Tryd.f24.results = #[.cell 4 24] by kernel_rfl) _ _ w.heap.size 24 _ _ _ rfl (setRow_heap _ _ _ _ _ _ ((Below.heap_setCell ww2 ⟨ww1.heap.size + 1, 4, none⟩ (.int .i64 ((formL 6).number x)) w.heap.size (by show w.heap.size ≠ ww1.heap.size + 1; omega)).trans HZ2.out)) Tryd.underlying24 rfl size_ins) rfl ⟨rfl, below_setRow ((HB1.out.trans (HB2.out.mono (by omega))).setCell (by show w.heap.size ≤ ww1.heap.size + 1; omega) _) (Nat.le_refl _) _⟩

set_option maxHeartbeats 1000000 in
theorem says_6 (op : Nat) (h1 : 1 ≤ op) (h2 : op ≤ 113) (hk : frmT op = 6) (x : Int) (hx : In32 x) (w : World) :
    Calls Tryd.prog 24 #[.int .i64 op, .int .u32 x] w fun e w' => e = .returned (.agg #[.int .i64 op, .int .i64 (fldZ x 11 7), .int .i64 (fldZ x 19 15), .int .i64 (0), .int .i64 ((formL 7).number x), .int .i64 (0), .bool (false), .bool (false)]) ∧ Below w.heap.size w w' := by
  have HR : Hid (∀ w, Calls Tryd.prog 23 #[.int .i64 op] w fun e w' => e = .returned (.agg #[.string (nameT op), .int .u32 (mskT op), .int .u32 (matT op), .int .u8 87]) ∧ Below w.heap.size w w') := Lib.hid fun w => by have h := refRow_any op h1 h2 w; rw [hk] at h; exact h
  have Hrd : Hid (∀ w, Calls Tryd.prog 38 #[.int .u8 87, .string ⟨#[85, 74, 73, 72, 87, 82, 76, 65, 67, 90, 86]⟩] w fun e w' => e = .returned (.bool true) ∧ w = w') := Lib.hid fun w => has_rd 6 (by omega) w
  have Ha : Hid (∀ w, Calls Tryd.prog 38 #[.int .u8 87, .string ⟨#[73, 72, 87, 66, 83, 70, 82, 76, 65, 67, 86]⟩] w fun e w' => e = .returned (.bool true) ∧ w = w') := Lib.hid fun w => has_a 6 (by omega) w
  have Hb : Hid (∀ w, Calls Tryd.prog 38 #[.int .u8 87, .string ⟨#[66, 83, 70, 82, 65]⟩] w fun e w' => e = .returned (.bool false) ∧ w = w') := Lib.hid fun w => has_b 6 (by omega) w
  have Hcsr : Hid (∀ w, Calls Tryd.prog 38 #[.int .u8 87, .string ⟨#[67, 90]⟩] w fun e w' => e = .returned (.bool false) ∧ w = w') := Lib.hid fun w => has_csr 6 (by omega) w
  have Hord : Hid (∀ w, Calls Tryd.prog 38 #[.int .u8 87, .string ⟨#[76, 65]⟩] w fun e w' => e = .returned (.bool false) ∧ w = w') := Lib.hid fun w => has_ord 6 (by omega) w
  have HN : Hid (∀ w, Calls Tryd.prog 40 #[.int .i64 7, .int .u32 x] w fun e w' => e = .returned (.tuple #[.int .i64 ((formL 7).number x), .bool true]) ∧ Below w.heap.size w w') := Lib.hid fun w => refNumber_form 7 (by omega) x hx w
  have HX := Lib.hid hx
  have fr := fldZ_in32 x 11 7
  unfold In32 at fr
  obtain ⟨fr1, fr2⟩ := fr
  have fs := fldZ_in32 x 19 15
  unfold In32 at fs
  obtain ⟨fs1, fs2⟩ := fs
  have ft := fldZ_in32 x 24 20
  unfold In32 at ft
  obtain ⟨ft1, ft2⟩ := ft
  have fu := fldZ_in32 x 31 20
  unfold In32 at fu
  obtain ⟨fu1, fu2⟩ := fu
  generalize nameT op = nm at *
  generalize mskT op = mk at *
  generalize matT op = mt at *
  clear h1 h2 hk hx
  go_enter Tryd.func24, Tryd.ntmps24
  go_wp2_with (first
    | (go_at_call 23; (with_reducible refine (HR.out _).mono ?_); rintro e ww1 ⟨rfl, hb1⟩; have HB1 : Hid (Below w.heap.size w ww1) := Lib.hid (((Below.refl _ _).alloc (Nat.le_refl _) _).trans (hb1.mono (by simp))); have hs1 : w.heap.size < ww1.heap.size := (by have := hb1.size; simp at this; omega); have HZ1 : Hid (ww1.heap[w.heap.size]? = some (.cells #[.int .i64 0, .int .i64 0, .int .i64 0, .int .i64 0, .int .i64 0, .int .i64 0, .bool false, .bool false] 24 (0, 0))) := Lib.hid ((hb1.block _ (by simp)).trans (heap_alloc_new w _)); have HZA : Hid (∀ a b, ((ww1.alloc a).alloc b).heap[w.heap.size]? = some (.cells #[.int .i64 0, .int .i64 0, .int .i64 0, .int .i64 0, .int .i64 0, .int .i64 0, .bool false, .bool false] 24 (0, 0))) := Lib.hid (fun a b => by rw [Below.heap_alloc _ _ _ (by rw [World.size_alloc]; omega), Below.heap_alloc _ _ _ hs1]; exact HZ1.out); clear hb1)
    | (go_at_call 38; (with_reducible refine (Hrd.out _).mono ?_); rintro e w3 ⟨rfl, rfl⟩)
    | (go_at_call 38; (with_reducible refine (Ha.out _).mono ?_); rintro e w3 ⟨rfl, rfl⟩)
    | (go_at_call 38; (with_reducible refine (Hb.out _).mono ?_); rintro e w3 ⟨rfl, rfl⟩)
    | (go_at_call 38; (with_reducible refine (Hcsr.out _).mono ?_); rintro e w3 ⟨rfl, rfl⟩)
    | (go_at_call 38; (with_reducible refine (Hord.out _).mono ?_); rintro e w3 ⟨rfl, rfl⟩)
    | (go_at_call 39; (with_reducible refine (refField_any _ _ _ HX.out _).mono ?_); rintro e w3 ⟨rfl, rfl⟩)
    | (go_at_call 27; (with_reducible refine (refForm_6 _).mono ?_); rintro e w3 ⟨rfl, rfl⟩)
    | (go_at_call 40; (with_reducible refine (HN.out _).mono ?_); rintro e ww2 ⟨rfl, hb2⟩; have HZ2 : Hid (ww2.heap[w.heap.size]? = some (.cells #[.int .i64 0, .int .i64 0, .int .i64 0, .int .i64 0, .int .i64 0, .int .i64 0, .bool false, .bool false] 24 (0, 0))) := Lib.hid ((hb2.block _ (by rw [World.size_alloc, World.size_alloc]; omega)).trans (HZA.out _ _)); obtain ⟨HB2, HC2, hs2⟩ := rowsS hb2; have q0 : ww2.cell? ⟨ww1.heap.size + 1, 0, none⟩ = some (.int .i64 op) := (by rw [cell_of_row _ _ _ _ _ _ HC2.out]; rfl); have q1 : ww2.cell? ⟨ww1.heap.size + 1, 1, none⟩ = some (.int .i64 (fldZ x 11 7)) := (by rw [cell_of_row _ _ _ _ _ _ HC2.out]; rfl); have q2 : ww2.cell? ⟨ww1.heap.size + 1, 2, none⟩ = some (.int .i64 (fldZ x 19 15)) := (by rw [cell_of_row _ _ _ _ _ _ HC2.out]; rfl); have q3 : ww2.cell? ⟨ww1.heap.size + 1, 3, none⟩ = some (.int .i64 (0)) := (by rw [cell_of_row _ _ _ _ _ _ HC2.out]; rfl); have q4 : ww2.cell? ⟨ww1.heap.size + 1, 4, none⟩ = some (.int .i64 (0)) := (by rw [cell_of_row _ _ _ _ _ _ HC2.out]; rfl); have q5 : ww2.cell? ⟨ww1.heap.size + 1, 5, none⟩ = some (.int .i64 (0)) := (by rw [cell_of_row _ _ _ _ _ _ HC2.out]; rfl); have q6 : ww2.cell? ⟨ww1.heap.size + 1, 6, none⟩ = some (.bool (false)) := (by rw [cell_of_row _ _ _ _ _ _ HC2.out]; rfl); have q7 : ww2.cell? ⟨ww1.heap.size + 1, 7, none⟩ = some (.bool (false)) := (by rw [cell_of_row _ _ _ _ _ _ HC2.out]; rfl); have qf : ∀ j, ww2.frozen? ⟨ww1.heap.size + 1, j, none⟩ = false := (fun j => frozen_of_row _ _ _ _ _ HC2.out); clear hb2)
    | (refine wpList_store_row rfl _ _ _ rfl w.heap.size _ rfl rfl 24 _ ((Below.heap_setCell ww2 ⟨ww1.heap.size + 1, 4, none⟩ (.int .i64 ((formL 7).number x)) w.heap.size (by show w.heap.size ≠ ww1.heap.size + 1; omega)).trans HZ2.out) size_ins rfl (by simp [Value.oneCell']) ?_))
  exact bodyPost_ret (v := .agg #[.int .i64 op, .int .i64 (fldZ x 11 7), .int .i64 (fldZ x 19 15), .int .i64 (0), .int .i64 ((formL 7).number x), .int .i64 (0), .bool (false), .bool (false)]) (results_cell_row (show Tryd.f24.results = #[.cell 4 24] by kernel_rfl) _ _ w.heap.size 24 _ _ _ rfl (setRow_heap _ _ _ _ _ _ ((Below.heap_setCell ww2 ⟨ww1.heap.size + 1, 4, none⟩ (.int .i64 ((formL 7).number x)) w.heap.size (by show w.heap.size ≠ ww1.heap.size + 1; omega)).trans HZ2.out)) Tryd.underlying24 rfl size_ins) rfl ⟨rfl, below_setRow ((HB1.out.trans (HB2.out.mono (by omega))).setCell (by show w.heap.size ≤ ww1.heap.size + 1; omega) _) (Nat.le_refl _) _⟩

set_option maxHeartbeats 1000000 in
theorem says_7 (op : Nat) (h1 : 1 ≤ op) (h2 : op ≤ 113) (hk : frmT op = 7) (x : Int) (hx : In32 x) (w : World) :
    Calls Tryd.prog 24 #[.int .i64 op, .int .u32 x] w fun e w' => e = .returned (.agg #[.int .i64 op, .int .i64 (fldZ x 11 7), .int .i64 (fldZ x 19 15), .int .i64 (fldZ x 24 20), .int .i64 (0), .int .i64 (0), .bool (false), .bool (false)]) ∧ Below w.heap.size w w' := by
  have HR : Hid (∀ w, Calls Tryd.prog 23 #[.int .i64 op] w fun e w' => e = .returned (.agg #[.string (nameT op), .int .u32 (mskT op), .int .u32 (matT op), .int .u8 82]) ∧ Below w.heap.size w w') := Lib.hid fun w => by have h := refRow_any op h1 h2 w; rw [hk] at h; exact h
  have Hrd : Hid (∀ w, Calls Tryd.prog 38 #[.int .u8 82, .string ⟨#[85, 74, 73, 72, 87, 82, 76, 65, 67, 90, 86]⟩] w fun e w' => e = .returned (.bool true) ∧ w = w') := Lib.hid fun w => has_rd 7 (by omega) w
  have Ha : Hid (∀ w, Calls Tryd.prog 38 #[.int .u8 82, .string ⟨#[73, 72, 87, 66, 83, 70, 82, 76, 65, 67, 86]⟩] w fun e w' => e = .returned (.bool true) ∧ w = w') := Lib.hid fun w => has_a 7 (by omega) w
  have Hb : Hid (∀ w, Calls Tryd.prog 38 #[.int .u8 82, .string ⟨#[66, 83, 70, 82, 65]⟩] w fun e w' => e = .returned (.bool true) ∧ w = w') := Lib.hid fun w => has_b 7 (by omega) w
  have Hcsr : Hid (∀ w, Calls Tryd.prog 38 #[.int .u8 82, .string ⟨#[67, 90]⟩] w fun e w' => e = .returned (.bool false) ∧ w = w') := Lib.hid fun w => has_csr 7 (by omega) w
  have Hord : Hid (∀ w, Calls Tryd.prog 38 #[.int .u8 82, .string ⟨#[76, 65]⟩] w fun e w' => e = .returned (.bool false) ∧ w = w') := Lib.hid fun w => has_ord 7 (by omega) w
  have HX := Lib.hid hx
  have fr := fldZ_in32 x 11 7
  unfold In32 at fr
  obtain ⟨fr1, fr2⟩ := fr
  have fs := fldZ_in32 x 19 15
  unfold In32 at fs
  obtain ⟨fs1, fs2⟩ := fs
  have ft := fldZ_in32 x 24 20
  unfold In32 at ft
  obtain ⟨ft1, ft2⟩ := ft
  have fu := fldZ_in32 x 31 20
  unfold In32 at fu
  obtain ⟨fu1, fu2⟩ := fu
  generalize nameT op = nm at *
  generalize mskT op = mk at *
  generalize matT op = mt at *
  clear h1 h2 hk hx
  go_enter Tryd.func24, Tryd.ntmps24
  go_wp2_with (first
    | (go_at_call 23; (with_reducible refine (HR.out _).mono ?_); rintro e ww1 ⟨rfl, hb1⟩; have HB1 : Hid (Below w.heap.size w ww1) := Lib.hid (((Below.refl _ _).alloc (Nat.le_refl _) _).trans (hb1.mono (by simp))); have hs1 : w.heap.size < ww1.heap.size := (by have := hb1.size; simp at this; omega); have HZ1 : Hid (ww1.heap[w.heap.size]? = some (.cells #[.int .i64 0, .int .i64 0, .int .i64 0, .int .i64 0, .int .i64 0, .int .i64 0, .bool false, .bool false] 24 (0, 0))) := Lib.hid ((hb1.block _ (by simp)).trans (heap_alloc_new w _)); have HZA : Hid (∀ a b, ((ww1.alloc a).alloc b).heap[w.heap.size]? = some (.cells #[.int .i64 0, .int .i64 0, .int .i64 0, .int .i64 0, .int .i64 0, .int .i64 0, .bool false, .bool false] 24 (0, 0))) := Lib.hid (fun a b => by rw [Below.heap_alloc _ _ _ (by rw [World.size_alloc]; omega), Below.heap_alloc _ _ _ hs1]; exact HZ1.out); clear hb1)
    | (go_at_call 38; (with_reducible refine (Hrd.out _).mono ?_); rintro e w3 ⟨rfl, rfl⟩)
    | (go_at_call 38; (with_reducible refine (Ha.out _).mono ?_); rintro e w3 ⟨rfl, rfl⟩)
    | (go_at_call 38; (with_reducible refine (Hb.out _).mono ?_); rintro e w3 ⟨rfl, rfl⟩)
    | (go_at_call 38; (with_reducible refine (Hcsr.out _).mono ?_); rintro e w3 ⟨rfl, rfl⟩)
    | (go_at_call 38; (with_reducible refine (Hord.out _).mono ?_); rintro e w3 ⟨rfl, rfl⟩)
    | (go_at_call 39; (with_reducible refine (refField_any _ _ _ HX.out _).mono ?_); rintro e w3 ⟨rfl, rfl⟩)
    | (go_at_call 27; (with_reducible refine (refForm_7 _).mono ?_); rintro e w3 ⟨rfl, rfl⟩)
    | (refine wpList_store_row rfl _ _ _ rfl w.heap.size _ rfl rfl 24 _ (HZA.out _ _) size_ins rfl (by simp [Value.oneCell']) ?_))
  exact bodyPost_ret (v := .agg #[.int .i64 op, .int .i64 (fldZ x 11 7), .int .i64 (fldZ x 19 15), .int .i64 (fldZ x 24 20), .int .i64 (0), .int .i64 (0), .bool (false), .bool (false)]) (results_cell_row (show Tryd.f24.results = #[.cell 4 24] by kernel_rfl) _ _ w.heap.size 24 _ _ _ rfl (setRow_heap _ _ _ _ _ _ (HZA.out _ _)) Tryd.underlying24 rfl size_ins) rfl ⟨rfl, below_setRow ((HB1.out.alloc (by omega) _).alloc (by rw [World.size_alloc]; omega) _) (Nat.le_refl _) _⟩

set_option maxHeartbeats 1000000 in
theorem says_8 (op : Nat) (h1 : 1 ≤ op) (h2 : op ≤ 113) (hk : frmT op = 8) (x : Int) (hx : In32 x) (w : World) :
    Calls Tryd.prog 24 #[.int .i64 op, .int .u32 x] w fun e w' => e = .returned (.agg #[.int .i64 op, .int .i64 (fldZ x 11 7), .int .i64 (fldZ x 19 15), .int .i64 (0), .int .i64 (0), .int .i64 (0), .bool (fldZ x 26 26 == 1), .bool (fldZ x 25 25 == 1)]) ∧ Below w.heap.size w w' := by
  have HR : Hid (∀ w, Calls Tryd.prog 23 #[.int .i64 op] w fun e w' => e = .returned (.agg #[.string (nameT op), .int .u32 (mskT op), .int .u32 (matT op), .int .u8 76]) ∧ Below w.heap.size w w') := Lib.hid fun w => by have h := refRow_any op h1 h2 w; rw [hk] at h; exact h
  have Hrd : Hid (∀ w, Calls Tryd.prog 38 #[.int .u8 76, .string ⟨#[85, 74, 73, 72, 87, 82, 76, 65, 67, 90, 86]⟩] w fun e w' => e = .returned (.bool true) ∧ w = w') := Lib.hid fun w => has_rd 8 (by omega) w
  have Ha : Hid (∀ w, Calls Tryd.prog 38 #[.int .u8 76, .string ⟨#[73, 72, 87, 66, 83, 70, 82, 76, 65, 67, 86]⟩] w fun e w' => e = .returned (.bool true) ∧ w = w') := Lib.hid fun w => has_a 8 (by omega) w
  have Hb : Hid (∀ w, Calls Tryd.prog 38 #[.int .u8 76, .string ⟨#[66, 83, 70, 82, 65]⟩] w fun e w' => e = .returned (.bool false) ∧ w = w') := Lib.hid fun w => has_b 8 (by omega) w
  have Hcsr : Hid (∀ w, Calls Tryd.prog 38 #[.int .u8 76, .string ⟨#[67, 90]⟩] w fun e w' => e = .returned (.bool false) ∧ w = w') := Lib.hid fun w => has_csr 8 (by omega) w
  have Hord : Hid (∀ w, Calls Tryd.prog 38 #[.int .u8 76, .string ⟨#[76, 65]⟩] w fun e w' => e = .returned (.bool true) ∧ w = w') := Lib.hid fun w => has_ord 8 (by omega) w
  have HX := Lib.hid hx
  have fr := fldZ_in32 x 11 7
  unfold In32 at fr
  obtain ⟨fr1, fr2⟩ := fr
  have fs := fldZ_in32 x 19 15
  unfold In32 at fs
  obtain ⟨fs1, fs2⟩ := fs
  have ft := fldZ_in32 x 24 20
  unfold In32 at ft
  obtain ⟨ft1, ft2⟩ := ft
  have fu := fldZ_in32 x 31 20
  unfold In32 at fu
  obtain ⟨fu1, fu2⟩ := fu
  generalize nameT op = nm at *
  generalize mskT op = mk at *
  generalize matT op = mt at *
  clear h1 h2 hk hx
  go_enter Tryd.func24, Tryd.ntmps24
  go_wp2_with (first
    | (go_at_call 23; (with_reducible refine (HR.out _).mono ?_); rintro e ww1 ⟨rfl, hb1⟩; have HB1 : Hid (Below w.heap.size w ww1) := Lib.hid (((Below.refl _ _).alloc (Nat.le_refl _) _).trans (hb1.mono (by simp))); have hs1 : w.heap.size < ww1.heap.size := (by have := hb1.size; simp at this; omega); have HZ1 : Hid (ww1.heap[w.heap.size]? = some (.cells #[.int .i64 0, .int .i64 0, .int .i64 0, .int .i64 0, .int .i64 0, .int .i64 0, .bool false, .bool false] 24 (0, 0))) := Lib.hid ((hb1.block _ (by simp)).trans (heap_alloc_new w _)); have HZA : Hid (∀ a b, ((ww1.alloc a).alloc b).heap[w.heap.size]? = some (.cells #[.int .i64 0, .int .i64 0, .int .i64 0, .int .i64 0, .int .i64 0, .int .i64 0, .bool false, .bool false] 24 (0, 0))) := Lib.hid (fun a b => by rw [Below.heap_alloc _ _ _ (by rw [World.size_alloc]; omega), Below.heap_alloc _ _ _ hs1]; exact HZ1.out); clear hb1)
    | (go_at_call 38; (with_reducible refine (Hrd.out _).mono ?_); rintro e w3 ⟨rfl, rfl⟩)
    | (go_at_call 38; (with_reducible refine (Ha.out _).mono ?_); rintro e w3 ⟨rfl, rfl⟩)
    | (go_at_call 38; (with_reducible refine (Hb.out _).mono ?_); rintro e w3 ⟨rfl, rfl⟩)
    | (go_at_call 38; (with_reducible refine (Hcsr.out _).mono ?_); rintro e w3 ⟨rfl, rfl⟩)
    | (go_at_call 38; (with_reducible refine (Hord.out _).mono ?_); rintro e w3 ⟨rfl, rfl⟩)
    | (go_at_call 39; (with_reducible refine (refField_any _ _ _ HX.out _).mono ?_); rintro e w3 ⟨rfl, rfl⟩)
    | (go_at_call 27; (with_reducible refine (refForm_8 _).mono ?_); rintro e w3 ⟨rfl, rfl⟩)
    | (refine wpList_store_row rfl _ _ _ rfl w.heap.size _ rfl rfl 24 _ (HZA.out _ _) size_ins rfl (by simp [Value.oneCell']) ?_))
  exact bodyPost_ret (v := .agg #[.int .i64 op, .int .i64 (fldZ x 11 7), .int .i64 (fldZ x 19 15), .int .i64 (0), .int .i64 (0), .int .i64 (0), .bool (fldZ x 26 26 == 1), .bool (fldZ x 25 25 == 1)]) (results_cell_row (show Tryd.f24.results = #[.cell 4 24] by kernel_rfl) _ _ w.heap.size 24 _ _ _ rfl (setRow_heap _ _ _ _ _ _ (HZA.out _ _)) Tryd.underlying24 rfl size_ins) rfl ⟨rfl, below_setRow ((HB1.out.alloc (by omega) _).alloc (by rw [World.size_alloc]; omega) _) (Nat.le_refl _) _⟩

set_option maxHeartbeats 1000000 in
theorem says_9 (op : Nat) (h1 : 1 ≤ op) (h2 : op ≤ 113) (hk : frmT op = 9) (x : Int) (hx : In32 x) (w : World) :
    Calls Tryd.prog 24 #[.int .i64 op, .int .u32 x] w fun e w' => e = .returned (.agg #[.int .i64 op, .int .i64 (fldZ x 11 7), .int .i64 (fldZ x 19 15), .int .i64 (fldZ x 24 20), .int .i64 (0), .int .i64 (0), .bool (fldZ x 26 26 == 1), .bool (fldZ x 25 25 == 1)]) ∧ Below w.heap.size w w' := by
  have HR : Hid (∀ w, Calls Tryd.prog 23 #[.int .i64 op] w fun e w' => e = .returned (.agg #[.string (nameT op), .int .u32 (mskT op), .int .u32 (matT op), .int .u8 65]) ∧ Below w.heap.size w w') := Lib.hid fun w => by have h := refRow_any op h1 h2 w; rw [hk] at h; exact h
  have Hrd : Hid (∀ w, Calls Tryd.prog 38 #[.int .u8 65, .string ⟨#[85, 74, 73, 72, 87, 82, 76, 65, 67, 90, 86]⟩] w fun e w' => e = .returned (.bool true) ∧ w = w') := Lib.hid fun w => has_rd 9 (by omega) w
  have Ha : Hid (∀ w, Calls Tryd.prog 38 #[.int .u8 65, .string ⟨#[73, 72, 87, 66, 83, 70, 82, 76, 65, 67, 86]⟩] w fun e w' => e = .returned (.bool true) ∧ w = w') := Lib.hid fun w => has_a 9 (by omega) w
  have Hb : Hid (∀ w, Calls Tryd.prog 38 #[.int .u8 65, .string ⟨#[66, 83, 70, 82, 65]⟩] w fun e w' => e = .returned (.bool true) ∧ w = w') := Lib.hid fun w => has_b 9 (by omega) w
  have Hcsr : Hid (∀ w, Calls Tryd.prog 38 #[.int .u8 65, .string ⟨#[67, 90]⟩] w fun e w' => e = .returned (.bool false) ∧ w = w') := Lib.hid fun w => has_csr 9 (by omega) w
  have Hord : Hid (∀ w, Calls Tryd.prog 38 #[.int .u8 65, .string ⟨#[76, 65]⟩] w fun e w' => e = .returned (.bool true) ∧ w = w') := Lib.hid fun w => has_ord 9 (by omega) w
  have HX := Lib.hid hx
  have fr := fldZ_in32 x 11 7
  unfold In32 at fr
  obtain ⟨fr1, fr2⟩ := fr
  have fs := fldZ_in32 x 19 15
  unfold In32 at fs
  obtain ⟨fs1, fs2⟩ := fs
  have ft := fldZ_in32 x 24 20
  unfold In32 at ft
  obtain ⟨ft1, ft2⟩ := ft
  have fu := fldZ_in32 x 31 20
  unfold In32 at fu
  obtain ⟨fu1, fu2⟩ := fu
  generalize nameT op = nm at *
  generalize mskT op = mk at *
  generalize matT op = mt at *
  clear h1 h2 hk hx
  go_enter Tryd.func24, Tryd.ntmps24
  go_wp2_with (first
    | (go_at_call 23; (with_reducible refine (HR.out _).mono ?_); rintro e ww1 ⟨rfl, hb1⟩; have HB1 : Hid (Below w.heap.size w ww1) := Lib.hid (((Below.refl _ _).alloc (Nat.le_refl _) _).trans (hb1.mono (by simp))); have hs1 : w.heap.size < ww1.heap.size := (by have := hb1.size; simp at this; omega); have HZ1 : Hid (ww1.heap[w.heap.size]? = some (.cells #[.int .i64 0, .int .i64 0, .int .i64 0, .int .i64 0, .int .i64 0, .int .i64 0, .bool false, .bool false] 24 (0, 0))) := Lib.hid ((hb1.block _ (by simp)).trans (heap_alloc_new w _)); have HZA : Hid (∀ a b, ((ww1.alloc a).alloc b).heap[w.heap.size]? = some (.cells #[.int .i64 0, .int .i64 0, .int .i64 0, .int .i64 0, .int .i64 0, .int .i64 0, .bool false, .bool false] 24 (0, 0))) := Lib.hid (fun a b => by rw [Below.heap_alloc _ _ _ (by rw [World.size_alloc]; omega), Below.heap_alloc _ _ _ hs1]; exact HZ1.out); clear hb1)
    | (go_at_call 38; (with_reducible refine (Hrd.out _).mono ?_); rintro e w3 ⟨rfl, rfl⟩)
    | (go_at_call 38; (with_reducible refine (Ha.out _).mono ?_); rintro e w3 ⟨rfl, rfl⟩)
    | (go_at_call 38; (with_reducible refine (Hb.out _).mono ?_); rintro e w3 ⟨rfl, rfl⟩)
    | (go_at_call 38; (with_reducible refine (Hcsr.out _).mono ?_); rintro e w3 ⟨rfl, rfl⟩)
    | (go_at_call 38; (with_reducible refine (Hord.out _).mono ?_); rintro e w3 ⟨rfl, rfl⟩)
    | (go_at_call 39; (with_reducible refine (refField_any _ _ _ HX.out _).mono ?_); rintro e w3 ⟨rfl, rfl⟩)
    | (go_at_call 27; (with_reducible refine (refForm_9 _).mono ?_); rintro e w3 ⟨rfl, rfl⟩)
    | (refine wpList_store_row rfl _ _ _ rfl w.heap.size _ rfl rfl 24 _ (HZA.out _ _) size_ins rfl (by simp [Value.oneCell']) ?_))
  exact bodyPost_ret (v := .agg #[.int .i64 op, .int .i64 (fldZ x 11 7), .int .i64 (fldZ x 19 15), .int .i64 (fldZ x 24 20), .int .i64 (0), .int .i64 (0), .bool (fldZ x 26 26 == 1), .bool (fldZ x 25 25 == 1)]) (results_cell_row (show Tryd.f24.results = #[.cell 4 24] by kernel_rfl) _ _ w.heap.size 24 _ _ _ rfl (setRow_heap _ _ _ _ _ _ (HZA.out _ _)) Tryd.underlying24 rfl size_ins) rfl ⟨rfl, below_setRow ((HB1.out.alloc (by omega) _).alloc (by rw [World.size_alloc]; omega) _) (Nat.le_refl _) _⟩

set_option maxHeartbeats 1000000 in
theorem says_10 (op : Nat) (h1 : 1 ≤ op) (h2 : op ≤ 113) (hk : frmT op = 10) (x : Int) (hx : In32 x) (w : World) :
    Calls Tryd.prog 24 #[.int .i64 op, .int .u32 x] w fun e w' => e = .returned (.agg #[.int .i64 op, .int .i64 (0), .int .i64 (0), .int .i64 (0), .int .i64 (0), .int .i64 (0), .bool (false), .bool (false)]) ∧ Below w.heap.size w w' := by
  have HR : Hid (∀ w, Calls Tryd.prog 23 #[.int .i64 op] w fun e w' => e = .returned (.agg #[.string (nameT op), .int .u32 (mskT op), .int .u32 (matT op), .int .u8 78]) ∧ Below w.heap.size w w') := Lib.hid fun w => by have h := refRow_any op h1 h2 w; rw [hk] at h; exact h
  have Hrd : Hid (∀ w, Calls Tryd.prog 38 #[.int .u8 78, .string ⟨#[85, 74, 73, 72, 87, 82, 76, 65, 67, 90, 86]⟩] w fun e w' => e = .returned (.bool false) ∧ w = w') := Lib.hid fun w => has_rd 10 (by omega) w
  have Ha : Hid (∀ w, Calls Tryd.prog 38 #[.int .u8 78, .string ⟨#[73, 72, 87, 66, 83, 70, 82, 76, 65, 67, 86]⟩] w fun e w' => e = .returned (.bool false) ∧ w = w') := Lib.hid fun w => has_a 10 (by omega) w
  have Hb : Hid (∀ w, Calls Tryd.prog 38 #[.int .u8 78, .string ⟨#[66, 83, 70, 82, 65]⟩] w fun e w' => e = .returned (.bool false) ∧ w = w') := Lib.hid fun w => has_b 10 (by omega) w
  have Hcsr : Hid (∀ w, Calls Tryd.prog 38 #[.int .u8 78, .string ⟨#[67, 90]⟩] w fun e w' => e = .returned (.bool false) ∧ w = w') := Lib.hid fun w => has_csr 10 (by omega) w
  have Hord : Hid (∀ w, Calls Tryd.prog 38 #[.int .u8 78, .string ⟨#[76, 65]⟩] w fun e w' => e = .returned (.bool false) ∧ w = w') := Lib.hid fun w => has_ord 10 (by omega) w
  have HX := Lib.hid hx
  have fr := fldZ_in32 x 11 7
  unfold In32 at fr
  obtain ⟨fr1, fr2⟩ := fr
  have fs := fldZ_in32 x 19 15
  unfold In32 at fs
  obtain ⟨fs1, fs2⟩ := fs
  have ft := fldZ_in32 x 24 20
  unfold In32 at ft
  obtain ⟨ft1, ft2⟩ := ft
  have fu := fldZ_in32 x 31 20
  unfold In32 at fu
  obtain ⟨fu1, fu2⟩ := fu
  generalize nameT op = nm at *
  generalize mskT op = mk at *
  generalize matT op = mt at *
  clear h1 h2 hk hx
  go_enter Tryd.func24, Tryd.ntmps24
  go_wp2_with (first
    | (go_at_call 23; (with_reducible refine (HR.out _).mono ?_); rintro e ww1 ⟨rfl, hb1⟩; have HB1 : Hid (Below w.heap.size w ww1) := Lib.hid (((Below.refl _ _).alloc (Nat.le_refl _) _).trans (hb1.mono (by simp))); have hs1 : w.heap.size < ww1.heap.size := (by have := hb1.size; simp at this; omega); have HZ1 : Hid (ww1.heap[w.heap.size]? = some (.cells #[.int .i64 0, .int .i64 0, .int .i64 0, .int .i64 0, .int .i64 0, .int .i64 0, .bool false, .bool false] 24 (0, 0))) := Lib.hid ((hb1.block _ (by simp)).trans (heap_alloc_new w _)); have HZA : Hid (∀ a b, ((ww1.alloc a).alloc b).heap[w.heap.size]? = some (.cells #[.int .i64 0, .int .i64 0, .int .i64 0, .int .i64 0, .int .i64 0, .int .i64 0, .bool false, .bool false] 24 (0, 0))) := Lib.hid (fun a b => by rw [Below.heap_alloc _ _ _ (by rw [World.size_alloc]; omega), Below.heap_alloc _ _ _ hs1]; exact HZ1.out); clear hb1)
    | (go_at_call 38; (with_reducible refine (Hrd.out _).mono ?_); rintro e w3 ⟨rfl, rfl⟩)
    | (go_at_call 38; (with_reducible refine (Ha.out _).mono ?_); rintro e w3 ⟨rfl, rfl⟩)
    | (go_at_call 38; (with_reducible refine (Hb.out _).mono ?_); rintro e w3 ⟨rfl, rfl⟩)
    | (go_at_call 38; (with_reducible refine (Hcsr.out _).mono ?_); rintro e w3 ⟨rfl, rfl⟩)
    | (go_at_call 38; (with_reducible refine (Hord.out _).mono ?_); rintro e w3 ⟨rfl, rfl⟩)
    | (go_at_call 39; (with_reducible refine (refField_any _ _ _ HX.out _).mono ?_); rintro e w3 ⟨rfl, rfl⟩)
    | (go_at_call 27; (with_reducible refine (refForm_10 _).mono ?_); rintro e w3 ⟨rfl, rfl⟩)
    | (refine wpList_store_row rfl _ _ _ rfl w.heap.size _ rfl rfl 24 _ (HZA.out _ _) size_ins rfl (by simp [Value.oneCell']) ?_))
  exact bodyPost_ret (v := .agg #[.int .i64 op, .int .i64 (0), .int .i64 (0), .int .i64 (0), .int .i64 (0), .int .i64 (0), .bool (false), .bool (false)]) (results_cell_row (show Tryd.f24.results = #[.cell 4 24] by kernel_rfl) _ _ w.heap.size 24 _ _ _ rfl (setRow_heap _ _ _ _ _ _ (HZA.out _ _)) Tryd.underlying24 rfl size_ins) rfl ⟨rfl, below_setRow ((HB1.out.alloc (by omega) _).alloc (by rw [World.size_alloc]; omega) _) (Nat.le_refl _) _⟩

set_option maxHeartbeats 1000000 in
theorem says_11 (op : Nat) (h1 : 1 ≤ op) (h2 : op ≤ 113) (hk : frmT op = 11) (x : Int) (hx : In32 x) (w : World) :
    Calls Tryd.prog 24 #[.int .i64 op, .int .u32 x] w fun e w' => e = .returned (.agg #[.int .i64 op, .int .i64 (0), .int .i64 (fldZ x 19 15), .int .i64 (fldZ x 24 20), .int .i64 (0), .int .i64 (0), .bool (false), .bool (false)]) ∧ Below w.heap.size w w' := by
  have HR : Hid (∀ w, Calls Tryd.prog 23 #[.int .i64 op] w fun e w' => e = .returned (.agg #[.string (nameT op), .int .u32 (mskT op), .int .u32 (matT op), .int .u8 70]) ∧ Below w.heap.size w w') := Lib.hid fun w => by have h := refRow_any op h1 h2 w; rw [hk] at h; exact h
  have Hrd : Hid (∀ w, Calls Tryd.prog 38 #[.int .u8 70, .string ⟨#[85, 74, 73, 72, 87, 82, 76, 65, 67, 90, 86]⟩] w fun e w' => e = .returned (.bool false) ∧ w = w') := Lib.hid fun w => has_rd 11 (by omega) w
  have Ha : Hid (∀ w, Calls Tryd.prog 38 #[.int .u8 70, .string ⟨#[73, 72, 87, 66, 83, 70, 82, 76, 65, 67, 86]⟩] w fun e w' => e = .returned (.bool true) ∧ w = w') := Lib.hid fun w => has_a 11 (by omega) w
  have Hb : Hid (∀ w, Calls Tryd.prog 38 #[.int .u8 70, .string ⟨#[66, 83, 70, 82, 65]⟩] w fun e w' => e = .returned (.bool true) ∧ w = w') := Lib.hid fun w => has_b 11 (by omega) w
  have Hcsr : Hid (∀ w, Calls Tryd.prog 38 #[.int .u8 70, .string ⟨#[67, 90]⟩] w fun e w' => e = .returned (.bool false) ∧ w = w') := Lib.hid fun w => has_csr 11 (by omega) w
  have Hord : Hid (∀ w, Calls Tryd.prog 38 #[.int .u8 70, .string ⟨#[76, 65]⟩] w fun e w' => e = .returned (.bool false) ∧ w = w') := Lib.hid fun w => has_ord 11 (by omega) w
  have HX := Lib.hid hx
  have fr := fldZ_in32 x 11 7
  unfold In32 at fr
  obtain ⟨fr1, fr2⟩ := fr
  have fs := fldZ_in32 x 19 15
  unfold In32 at fs
  obtain ⟨fs1, fs2⟩ := fs
  have ft := fldZ_in32 x 24 20
  unfold In32 at ft
  obtain ⟨ft1, ft2⟩ := ft
  have fu := fldZ_in32 x 31 20
  unfold In32 at fu
  obtain ⟨fu1, fu2⟩ := fu
  generalize nameT op = nm at *
  generalize mskT op = mk at *
  generalize matT op = mt at *
  clear h1 h2 hk hx
  go_enter Tryd.func24, Tryd.ntmps24
  go_wp2_with (first
    | (go_at_call 23; (with_reducible refine (HR.out _).mono ?_); rintro e ww1 ⟨rfl, hb1⟩; have HB1 : Hid (Below w.heap.size w ww1) := Lib.hid (((Below.refl _ _).alloc (Nat.le_refl _) _).trans (hb1.mono (by simp))); have hs1 : w.heap.size < ww1.heap.size := (by have := hb1.size; simp at this; omega); have HZ1 : Hid (ww1.heap[w.heap.size]? = some (.cells #[.int .i64 0, .int .i64 0, .int .i64 0, .int .i64 0, .int .i64 0, .int .i64 0, .bool false, .bool false] 24 (0, 0))) := Lib.hid ((hb1.block _ (by simp)).trans (heap_alloc_new w _)); have HZA : Hid (∀ a b, ((ww1.alloc a).alloc b).heap[w.heap.size]? = some (.cells #[.int .i64 0, .int .i64 0, .int .i64 0, .int .i64 0, .int .i64 0, .int .i64 0, .bool false, .bool false] 24 (0, 0))) := Lib.hid (fun a b => by rw [Below.heap_alloc _ _ _ (by rw [World.size_alloc]; omega), Below.heap_alloc _ _ _ hs1]; exact HZ1.out); clear hb1)
    | (go_at_call 38; (with_reducible refine (Hrd.out _).mono ?_); rintro e w3 ⟨rfl, rfl⟩)
    | (go_at_call 38; (with_reducible refine (Ha.out _).mono ?_); rintro e w3 ⟨rfl, rfl⟩)
    | (go_at_call 38; (with_reducible refine (Hb.out _).mono ?_); rintro e w3 ⟨rfl, rfl⟩)
    | (go_at_call 38; (with_reducible refine (Hcsr.out _).mono ?_); rintro e w3 ⟨rfl, rfl⟩)
    | (go_at_call 38; (with_reducible refine (Hord.out _).mono ?_); rintro e w3 ⟨rfl, rfl⟩)
    | (go_at_call 39; (with_reducible refine (refField_any _ _ _ HX.out _).mono ?_); rintro e w3 ⟨rfl, rfl⟩)
    | (go_at_call 27; (with_reducible refine (refForm_11 _).mono ?_); rintro e w3 ⟨rfl, rfl⟩)
    | (refine wpList_store_row rfl _ _ _ rfl w.heap.size _ rfl rfl 24 _ (HZA.out _ _) size_ins rfl (by simp [Value.oneCell']) ?_))
  exact bodyPost_ret (v := .agg #[.int .i64 op, .int .i64 (0), .int .i64 (fldZ x 19 15), .int .i64 (fldZ x 24 20), .int .i64 (0), .int .i64 (0), .bool (false), .bool (false)]) (results_cell_row (show Tryd.f24.results = #[.cell 4 24] by kernel_rfl) _ _ w.heap.size 24 _ _ _ rfl (setRow_heap _ _ _ _ _ _ (HZA.out _ _)) Tryd.underlying24 rfl size_ins) rfl ⟨rfl, below_setRow ((HB1.out.alloc (by omega) _).alloc (by rw [World.size_alloc]; omega) _) (Nat.le_refl _) _⟩

set_option maxHeartbeats 1000000 in
theorem says_12 (op : Nat) (h1 : 1 ≤ op) (h2 : op ≤ 113) (hk : frmT op = 12) (x : Int) (hx : In32 x) (w : World) :
    Calls Tryd.prog 24 #[.int .i64 op, .int .u32 x] w fun e w' => e = .returned (.agg #[.int .i64 op, .int .i64 (fldZ x 11 7), .int .i64 (fldZ x 19 15), .int .i64 (0), .int .i64 (0), .int .i64 (fldZ x 31 20), .bool (false), .bool (false)]) ∧ Below w.heap.size w w' := by
  have HR : Hid (∀ w, Calls Tryd.prog 23 #[.int .i64 op] w fun e w' => e = .returned (.agg #[.string (nameT op), .int .u32 (mskT op), .int .u32 (matT op), .int .u8 67]) ∧ Below w.heap.size w w') := Lib.hid fun w => by have h := refRow_any op h1 h2 w; rw [hk] at h; exact h
  have Hrd : Hid (∀ w, Calls Tryd.prog 38 #[.int .u8 67, .string ⟨#[85, 74, 73, 72, 87, 82, 76, 65, 67, 90, 86]⟩] w fun e w' => e = .returned (.bool true) ∧ w = w') := Lib.hid fun w => has_rd 12 (by omega) w
  have Ha : Hid (∀ w, Calls Tryd.prog 38 #[.int .u8 67, .string ⟨#[73, 72, 87, 66, 83, 70, 82, 76, 65, 67, 86]⟩] w fun e w' => e = .returned (.bool true) ∧ w = w') := Lib.hid fun w => has_a 12 (by omega) w
  have Hb : Hid (∀ w, Calls Tryd.prog 38 #[.int .u8 67, .string ⟨#[66, 83, 70, 82, 65]⟩] w fun e w' => e = .returned (.bool false) ∧ w = w') := Lib.hid fun w => has_b 12 (by omega) w
  have Hcsr : Hid (∀ w, Calls Tryd.prog 38 #[.int .u8 67, .string ⟨#[67, 90]⟩] w fun e w' => e = .returned (.bool true) ∧ w = w') := Lib.hid fun w => has_csr 12 (by omega) w
  have Hord : Hid (∀ w, Calls Tryd.prog 38 #[.int .u8 67, .string ⟨#[76, 65]⟩] w fun e w' => e = .returned (.bool false) ∧ w = w') := Lib.hid fun w => has_ord 12 (by omega) w
  have HX := Lib.hid hx
  have fr := fldZ_in32 x 11 7
  unfold In32 at fr
  obtain ⟨fr1, fr2⟩ := fr
  have fs := fldZ_in32 x 19 15
  unfold In32 at fs
  obtain ⟨fs1, fs2⟩ := fs
  have ft := fldZ_in32 x 24 20
  unfold In32 at ft
  obtain ⟨ft1, ft2⟩ := ft
  have fu := fldZ_in32 x 31 20
  unfold In32 at fu
  obtain ⟨fu1, fu2⟩ := fu
  generalize nameT op = nm at *
  generalize mskT op = mk at *
  generalize matT op = mt at *
  clear h1 h2 hk hx
  go_enter Tryd.func24, Tryd.ntmps24
  go_wp2_with (first
    | (go_at_call 23; (with_reducible refine (HR.out _).mono ?_); rintro e ww1 ⟨rfl, hb1⟩; have HB1 : Hid (Below w.heap.size w ww1) := Lib.hid (((Below.refl _ _).alloc (Nat.le_refl _) _).trans (hb1.mono (by simp))); have hs1 : w.heap.size < ww1.heap.size := (by have := hb1.size; simp at this; omega); have HZ1 : Hid (ww1.heap[w.heap.size]? = some (.cells #[.int .i64 0, .int .i64 0, .int .i64 0, .int .i64 0, .int .i64 0, .int .i64 0, .bool false, .bool false] 24 (0, 0))) := Lib.hid ((hb1.block _ (by simp)).trans (heap_alloc_new w _)); have HZA : Hid (∀ a b, ((ww1.alloc a).alloc b).heap[w.heap.size]? = some (.cells #[.int .i64 0, .int .i64 0, .int .i64 0, .int .i64 0, .int .i64 0, .int .i64 0, .bool false, .bool false] 24 (0, 0))) := Lib.hid (fun a b => by rw [Below.heap_alloc _ _ _ (by rw [World.size_alloc]; omega), Below.heap_alloc _ _ _ hs1]; exact HZ1.out); clear hb1)
    | (go_at_call 38; (with_reducible refine (Hrd.out _).mono ?_); rintro e w3 ⟨rfl, rfl⟩)
    | (go_at_call 38; (with_reducible refine (Ha.out _).mono ?_); rintro e w3 ⟨rfl, rfl⟩)
    | (go_at_call 38; (with_reducible refine (Hb.out _).mono ?_); rintro e w3 ⟨rfl, rfl⟩)
    | (go_at_call 38; (with_reducible refine (Hcsr.out _).mono ?_); rintro e w3 ⟨rfl, rfl⟩)
    | (go_at_call 38; (with_reducible refine (Hord.out _).mono ?_); rintro e w3 ⟨rfl, rfl⟩)
    | (go_at_call 39; (with_reducible refine (refField_any _ _ _ HX.out _).mono ?_); rintro e w3 ⟨rfl, rfl⟩)
    | (go_at_call 27; (with_reducible refine (refForm_12 _).mono ?_); rintro e w3 ⟨rfl, rfl⟩)
    | (refine wpList_store_row rfl _ _ _ rfl w.heap.size _ rfl rfl 24 _ (HZA.out _ _) size_ins rfl (by simp [Value.oneCell']) ?_))
  exact bodyPost_ret (v := .agg #[.int .i64 op, .int .i64 (fldZ x 11 7), .int .i64 (fldZ x 19 15), .int .i64 (0), .int .i64 (0), .int .i64 (fldZ x 31 20), .bool (false), .bool (false)]) (results_cell_row (show Tryd.f24.results = #[.cell 4 24] by kernel_rfl) _ _ w.heap.size 24 _ _ _ rfl (setRow_heap _ _ _ _ _ _ (HZA.out _ _)) Tryd.underlying24 rfl size_ins) rfl ⟨rfl, below_setRow ((HB1.out.alloc (by omega) _).alloc (by rw [World.size_alloc]; omega) _) (Nat.le_refl _) _⟩

set_option maxHeartbeats 1000000 in
theorem says_13 (op : Nat) (h1 : 1 ≤ op) (h2 : op ≤ 113) (hk : frmT op = 13) (x : Int) (hx : In32 x) (w : World) :
    Calls Tryd.prog 24 #[.int .i64 op, .int .u32 x] w fun e w' => e = .returned (.agg #[.int .i64 op, .int .i64 (fldZ x 11 7), .int .i64 (0), .int .i64 (0), .int .i64 ((formL 9).number x), .int .i64 (fldZ x 31 20), .bool (false), .bool (false)]) ∧ Below w.heap.size w w' := by
  have HR : Hid (∀ w, Calls Tryd.prog 23 #[.int .i64 op] w fun e w' => e = .returned (.agg #[.string (nameT op), .int .u32 (mskT op), .int .u32 (matT op), .int .u8 90]) ∧ Below w.heap.size w w') := Lib.hid fun w => by have h := refRow_any op h1 h2 w; rw [hk] at h; exact h
  have Hrd : Hid (∀ w, Calls Tryd.prog 38 #[.int .u8 90, .string ⟨#[85, 74, 73, 72, 87, 82, 76, 65, 67, 90, 86]⟩] w fun e w' => e = .returned (.bool true) ∧ w = w') := Lib.hid fun w => has_rd 13 (by omega) w
  have Ha : Hid (∀ w, Calls Tryd.prog 38 #[.int .u8 90, .string ⟨#[73, 72, 87, 66, 83, 70, 82, 76, 65, 67, 86]⟩] w fun e w' => e = .returned (.bool false) ∧ w = w') := Lib.hid fun w => has_a 13 (by omega) w
  have Hb : Hid (∀ w, Calls Tryd.prog 38 #[.int .u8 90, .string ⟨#[66, 83, 70, 82, 65]⟩] w fun e w' => e = .returned (.bool false) ∧ w = w') := Lib.hid fun w => has_b 13 (by omega) w
  have Hcsr : Hid (∀ w, Calls Tryd.prog 38 #[.int .u8 90, .string ⟨#[67, 90]⟩] w fun e w' => e = .returned (.bool true) ∧ w = w') := Lib.hid fun w => has_csr 13 (by omega) w
  have Hord : Hid (∀ w, Calls Tryd.prog 38 #[.int .u8 90, .string ⟨#[76, 65]⟩] w fun e w' => e = .returned (.bool false) ∧ w = w') := Lib.hid fun w => has_ord 13 (by omega) w
  have HN : Hid (∀ w, Calls Tryd.prog 40 #[.int .i64 9, .int .u32 x] w fun e w' => e = .returned (.tuple #[.int .i64 ((formL 9).number x), .bool true]) ∧ Below w.heap.size w w') := Lib.hid fun w => refNumber_form 9 (by omega) x hx w
  have HX := Lib.hid hx
  have fr := fldZ_in32 x 11 7
  unfold In32 at fr
  obtain ⟨fr1, fr2⟩ := fr
  have fs := fldZ_in32 x 19 15
  unfold In32 at fs
  obtain ⟨fs1, fs2⟩ := fs
  have ft := fldZ_in32 x 24 20
  unfold In32 at ft
  obtain ⟨ft1, ft2⟩ := ft
  have fu := fldZ_in32 x 31 20
  unfold In32 at fu
  obtain ⟨fu1, fu2⟩ := fu
  generalize nameT op = nm at *
  generalize mskT op = mk at *
  generalize matT op = mt at *
  clear h1 h2 hk hx
  go_enter Tryd.func24, Tryd.ntmps24
  go_wp2_with (first
    | (go_at_call 23; (with_reducible refine (HR.out _).mono ?_); rintro e ww1 ⟨rfl, hb1⟩; have HB1 : Hid (Below w.heap.size w ww1) := Lib.hid (((Below.refl _ _).alloc (Nat.le_refl _) _).trans (hb1.mono (by simp))); have hs1 : w.heap.size < ww1.heap.size := (by have := hb1.size; simp at this; omega); have HZ1 : Hid (ww1.heap[w.heap.size]? = some (.cells #[.int .i64 0, .int .i64 0, .int .i64 0, .int .i64 0, .int .i64 0, .int .i64 0, .bool false, .bool false] 24 (0, 0))) := Lib.hid ((hb1.block _ (by simp)).trans (heap_alloc_new w _)); have HZA : Hid (∀ a b, ((ww1.alloc a).alloc b).heap[w.heap.size]? = some (.cells #[.int .i64 0, .int .i64 0, .int .i64 0, .int .i64 0, .int .i64 0, .int .i64 0, .bool false, .bool false] 24 (0, 0))) := Lib.hid (fun a b => by rw [Below.heap_alloc _ _ _ (by rw [World.size_alloc]; omega), Below.heap_alloc _ _ _ hs1]; exact HZ1.out); clear hb1)
    | (go_at_call 38; (with_reducible refine (Hrd.out _).mono ?_); rintro e w3 ⟨rfl, rfl⟩)
    | (go_at_call 38; (with_reducible refine (Ha.out _).mono ?_); rintro e w3 ⟨rfl, rfl⟩)
    | (go_at_call 38; (with_reducible refine (Hb.out _).mono ?_); rintro e w3 ⟨rfl, rfl⟩)
    | (go_at_call 38; (with_reducible refine (Hcsr.out _).mono ?_); rintro e w3 ⟨rfl, rfl⟩)
    | (go_at_call 38; (with_reducible refine (Hord.out _).mono ?_); rintro e w3 ⟨rfl, rfl⟩)
    | (go_at_call 39; (with_reducible refine (refField_any _ _ _ HX.out _).mono ?_); rintro e w3 ⟨rfl, rfl⟩)
    | (go_at_call 27; (with_reducible refine (refForm_13 _).mono ?_); rintro e w3 ⟨rfl, rfl⟩)
    | (go_at_call 40; (with_reducible refine (HN.out _).mono ?_); rintro e ww2 ⟨rfl, hb2⟩; have HZ2 : Hid (ww2.heap[w.heap.size]? = some (.cells #[.int .i64 0, .int .i64 0, .int .i64 0, .int .i64 0, .int .i64 0, .int .i64 0, .bool false, .bool false] 24 (0, 0))) := Lib.hid ((hb2.block _ (by rw [World.size_alloc, World.size_alloc]; omega)).trans (HZA.out _ _)); obtain ⟨HB2, HC2, hs2⟩ := rowsS hb2; have q0 : ww2.cell? ⟨ww1.heap.size + 1, 0, none⟩ = some (.int .i64 op) := (by rw [cell_of_row _ _ _ _ _ _ HC2.out]; rfl); have q1 : ww2.cell? ⟨ww1.heap.size + 1, 1, none⟩ = some (.int .i64 (fldZ x 11 7)) := (by rw [cell_of_row _ _ _ _ _ _ HC2.out]; rfl); have q2 : ww2.cell? ⟨ww1.heap.size + 1, 2, none⟩ = some (.int .i64 (0)) := (by rw [cell_of_row _ _ _ _ _ _ HC2.out]; rfl); have q3 : ww2.cell? ⟨ww1.heap.size + 1, 3, none⟩ = some (.int .i64 (0)) := (by rw [cell_of_row _ _ _ _ _ _ HC2.out]; rfl); have q4 : ww2.cell? ⟨ww1.heap.size + 1, 4, none⟩ = some (.int .i64 (0)) := (by rw [cell_of_row _ _ _ _ _ _ HC2.out]; rfl); have q5 : ww2.cell? ⟨ww1.heap.size + 1, 5, none⟩ = some (.int .i64 (fldZ x 31 20)) := (by rw [cell_of_row _ _ _ _ _ _ HC2.out]; rfl); have q6 : ww2.cell? ⟨ww1.heap.size + 1, 6, none⟩ = some (.bool (false)) := (by rw [cell_of_row _ _ _ _ _ _ HC2.out]; rfl); have q7 : ww2.cell? ⟨ww1.heap.size + 1, 7, none⟩ = some (.bool (false)) := (by rw [cell_of_row _ _ _ _ _ _ HC2.out]; rfl); have qf : ∀ j, ww2.frozen? ⟨ww1.heap.size + 1, j, none⟩ = false := (fun j => frozen_of_row _ _ _ _ _ HC2.out); clear hb2)
    | (refine wpList_store_row rfl _ _ _ rfl w.heap.size _ rfl rfl 24 _ ((Below.heap_setCell ww2 ⟨ww1.heap.size + 1, 4, none⟩ (.int .i64 ((formL 9).number x)) w.heap.size (by show w.heap.size ≠ ww1.heap.size + 1; omega)).trans HZ2.out) size_ins rfl (by simp [Value.oneCell']) ?_))
  exact bodyPost_ret (v := .agg #[.int .i64 op, .int .i64 (fldZ x 11 7), .int .i64 (0), .int .i64 (0), .int .i64 ((formL 9).number x), .int .i64 (fldZ x 31 20), .bool (false), .bool (false)]) (results_cell_row (show Tryd.f24.results = #[.cell 4 24] by kernel_rfl) _ _ w.heap.size 24 _ _ _ rfl (setRow_heap _ _ _ _ _ _ ((Below.heap_setCell ww2 ⟨ww1.heap.size + 1, 4, none⟩ (.int .i64 ((formL 9).number x)) w.heap.size (by show w.heap.size ≠ ww1.heap.size + 1; omega)).trans HZ2.out)) Tryd.underlying24 rfl size_ins) rfl ⟨rfl, below_setRow ((HB1.out.trans (HB2.out.mono (by omega))).setCell (by show w.heap.size ≤ ww1.heap.size + 1; omega) _) (Nat.le_refl _) _⟩

set_option maxHeartbeats 1000000 in
theorem says_14 (op : Nat) (h1 : 1 ≤ op) (h2 : op ≤ 113) (hk : frmT op = 14) (x : Int) (hx : In32 x) (w : World) :
    Calls Tryd.prog 24 #[.int .i64 op, .int .u32 x] w fun e w' => e = .returned (.agg #[.int .i64 op, .int .i64 (fldZ x 11 7), .int .i64 (fldZ x 19 15), .int .i64 (0), .int .i64 (0), .int .i64 (0), .bool (false), .bool (false)]) ∧ Below w.heap.size w w' := by
  have HR : Hid (∀ w, Calls Tryd.prog 23 #[.int .i64 op] w fun e w' => e = .returned (.agg #[.string (nameT op), .int .u32 (mskT op), .int .u32 (matT op), .int .u8 86]) ∧ Below w.heap.size w w') := Lib.hid fun w => by have h := refRow_any op h1 h2 w; rw [hk] at h; exact h
  have Hrd : Hid (∀ w, Calls Tryd.prog 38 #[.int .u8 86, .string ⟨#[85, 74, 73, 72, 87, 82, 76, 65, 67, 90, 86]⟩] w fun e w' => e = .returned (.bool true) ∧ w = w') := Lib.hid fun w => has_rd 14 (by omega) w
  have Ha : Hid (∀ w, Calls Tryd.prog 38 #[.int .u8 86, .string ⟨#[73, 72, 87, 66, 83, 70, 82, 76, 65, 67, 86]⟩] w fun e w' => e = .returned (.bool true) ∧ w = w') := Lib.hid fun w => has_a 14 (by omega) w
  have Hb : Hid (∀ w, Calls Tryd.prog 38 #[.int .u8 86, .string ⟨#[66, 83, 70, 82, 65]⟩] w fun e w' => e = .returned (.bool false) ∧ w = w') := Lib.hid fun w => has_b 14 (by omega) w
  have Hcsr : Hid (∀ w, Calls Tryd.prog 38 #[.int .u8 86, .string ⟨#[67, 90]⟩] w fun e w' => e = .returned (.bool false) ∧ w = w') := Lib.hid fun w => has_csr 14 (by omega) w
  have Hord : Hid (∀ w, Calls Tryd.prog 38 #[.int .u8 86, .string ⟨#[76, 65]⟩] w fun e w' => e = .returned (.bool false) ∧ w = w') := Lib.hid fun w => has_ord 14 (by omega) w
  have HX := Lib.hid hx
  have fr := fldZ_in32 x 11 7
  unfold In32 at fr
  obtain ⟨fr1, fr2⟩ := fr
  have fs := fldZ_in32 x 19 15
  unfold In32 at fs
  obtain ⟨fs1, fs2⟩ := fs
  have ft := fldZ_in32 x 24 20
  unfold In32 at ft
  obtain ⟨ft1, ft2⟩ := ft
  have fu := fldZ_in32 x 31 20
  unfold In32 at fu
  obtain ⟨fu1, fu2⟩ := fu
  generalize nameT op = nm at *
  generalize mskT op = mk at *
  generalize matT op = mt at *
  clear h1 h2 hk hx
  go_enter Tryd.func24, Tryd.ntmps24
  go_wp2_with (first
    | (go_at_call 23; (with_reducible refine (HR.out _).mono ?_); rintro e ww1 ⟨rfl, hb1⟩; have HB1 : Hid (Below w.heap.size w ww1) := Lib.hid (((Below.refl _ _).alloc (Nat.le_refl _) _).trans (hb1.mono (by simp))); have hs1 : w.heap.size < ww1.heap.size := (by have := hb1.size; simp at this; omega); have HZ1 : Hid (ww1.heap[w.heap.size]? = some (.cells #[.int .i64 0, .int .i64 0, .int .i64 0, .int .i64 0, .int .i64 0, .int .i64 0, .bool false, .bool false] 24 (0, 0))) := Lib.hid ((hb1.block _ (by simp)).trans (heap_alloc_new w _)); have HZA : Hid (∀ a b, ((ww1.alloc a).alloc b).heap[w.heap.size]? = some (.cells #[.int .i64 0, .int .i64 0, .int .i64 0, .int .i64 0, .int .i64 0, .int .i64 0, .bool false, .bool false] 24 (0, 0))) := Lib.hid (fun a b => by rw [Below.heap_alloc _ _ _ (by rw [World.size_alloc]; omega), Below.heap_alloc _ _ _ hs1]; exact HZ1.out); clear hb1)
    | (go_at_call 38; (with_reducible refine (Hrd.out _).mono ?_); rintro e w3 ⟨rfl, rfl⟩)
    | (go_at_call 38; (with_reducible refine (Ha.out _).mono ?_); rintro e w3 ⟨rfl, rfl⟩)
    | (go_at_call 38; (with_reducible refine (Hb.out _).mono ?_); rintro e w3 ⟨rfl, rfl⟩)
    | (go_at_call 38; (with_reducible refine (Hcsr.out _).mono ?_); rintro e w3 ⟨rfl, rfl⟩)
    | (go_at_call 38; (with_reducible refine (Hord.out _).mono ?_); rintro e w3 ⟨rfl, rfl⟩)
    | (go_at_call 39; (with_reducible refine (refField_any _ _ _ HX.out _).mono ?_); rintro e w3 ⟨rfl, rfl⟩)
    | (go_at_call 27; (with_reducible refine (refForm_14 _).mono ?_); rintro e w3 ⟨rfl, rfl⟩)
    | (refine wpList_store_row rfl _ _ _ rfl w.heap.size _ rfl rfl 24 _ (HZA.out _ _) size_ins rfl (by simp [Value.oneCell']) ?_))
  exact bodyPost_ret (v := .agg #[.int .i64 op, .int .i64 (fldZ x 11 7), .int .i64 (fldZ x 19 15), .int .i64 (0), .int .i64 (0), .int .i64 (0), .bool (false), .bool (false)]) (results_cell_row (show Tryd.f24.results = #[.cell 4 24] by kernel_rfl) _ _ w.heap.size 24 _ _ _ rfl (setRow_heap _ _ _ _ _ _ (HZA.out _ _)) Tryd.underlying24 rfl size_ins) rfl ⟨rfl, below_setRow ((HB1.out.alloc (by omega) _).alloc (by rw [World.size_alloc]; omega) _) (Nat.le_refl _) _⟩

end Go.Proofs.YtehlihhnkojjeaaDoor
