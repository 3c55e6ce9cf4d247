/- The contract of find: each form's layout. -/
import Derived.Test.YtehlihhnkojjeaaDoorFdD
import Derived.Test.YtehlihhnkojjeaaDoorFk
namespace Go.Proofs.YtehlihhnkojjeaaDoor
open Go.RowKit
set_option linter.unusedVariables false
set_option maxRecDepth 100000

theorem find_1 (w : World) :
    Calls Tryd.prog 48 #[.int .i64 1] w fun e w' => e = .returned (.tuple #[.agg #[.int .i64 31, .int .i64 20, .int .i64 0, .int .i64 0, .int .i64 0, .int .i64 0, .int .i64 0, .int .i64 0, .int .i64 1, .int .i64 0, .bool true], .bool true]) ∧ Below w.heap.size w w' := by
  have HB0 : Hid (Below w.heap.size w (w.alloc (.cells #[.int .i64 0, .int .i64 0, .int .i64 0, .int .i64 0, .int .i64 0, .int .i64 0, .int .i64 0, .int .i64 0, .int .i64 0, .int .i64 0, .bool false] 92))) := Lib.hid ((Below.refl _ _).alloc (Nat.le_refl _) _)
  go_enter Tryd.func48, Tryd.ntmps48
  go_wp2_with (first
    | (go_at_call 58; refine (signed_1 (w.heap.size + 1) 0 31 20 _ (World.cell?_alloc_at _ _ _ _ (by simp)) (World.cell?_alloc_at _ _ _ _ (by simp)) (by simp)).mono ?_; rintro e w1 ⟨rfl, hb1⟩; have HZ : Hid (w.heap.size < w1.heap.size) := Lib.hid (by have := hb1.size; simp at this; omega); have HR : Hid (w1.heap[w.heap.size]? = some (.cells #[.int .i64 0, .int .i64 0, .int .i64 0, .int .i64 0, .int .i64 0, .int .i64 0, .int .i64 0, .int .i64 0, .int .i64 0, .int .i64 0, .bool false] 92 (0, 0))) := Lib.hid ((hb1.block w.heap.size (by simp; omega)).trans ((Below.heap_alloc _ _ w.heap.size (by simp)).trans (heap_alloc_new w _))); have HB1 := Lib.hid ((HB0.out.alloc (by simp) _).trans (hb1.mono (by simp; omega))); clear hb1)
    | (refine wpList_store_row rfl _ _ _ rfl w.heap.size _ rfl rfl 92 _ HR.out size42i rfl (by simp [Value.oneCell']) ?_))
  have hlv := run_loadVar_row (P := Tryd.prog) (w1.setRow w.heap.size #[.int .i64 31, .int .i64 20, .int .i64 0, .int .i64 0, .int .i64 0, .int .i64 0, .int .i64 0, .int .i64 0, .int .i64 1, .int .i64 0, .bool true]) w.heap.size 92 92 #[.int .i64 31, .int .i64 20, .int .i64 0, .int .i64 0, .int .i64 0, .int .i64 0, .int .i64 0, .int .i64 0, .int .i64 1, .int .i64 0, .bool true] (0, 0) _ (setRow_heap _ _ _ _ _ _ HR.out) Tryd.underlying92 rfl size42i
  exact bodyPost_ret (v := .tuple #[.agg #[.int .i64 31, .int .i64 20, .int .i64 0, .int .i64 0, .int .i64 0, .int .i64 0, .int .i64 0, .int .i64 0, .int .i64 1, .int .i64 0, .bool true], .bool true]) (by simp [results, Tryd.results48, hlv, asAddr]) rfl ⟨rfl, below_setRow HB1.out (Nat.le_refl _) _⟩

theorem find_2 (w : World) :
    Calls Tryd.prog 48 #[.int .i64 2] w fun e w' => e = .returned (.tuple #[.agg #[.int .i64 31, .int .i64 25, .int .i64 11, .int .i64 7, .int .i64 0, .int .i64 0, .int .i64 0, .int .i64 0, .int .i64 2, .int .i64 0, .bool true], .bool true]) ∧ Below w.heap.size w w' := by
  have HB0 : Hid (Below w.heap.size w (w.alloc (.cells #[.int .i64 0, .int .i64 0, .int .i64 0, .int .i64 0, .int .i64 0, .int .i64 0, .int .i64 0, .int .i64 0, .int .i64 0, .int .i64 0, .bool false] 92))) := Lib.hid ((Below.refl _ _).alloc (Nat.le_refl _) _)
  go_enter Tryd.func48, Tryd.ntmps48
  go_wp2_with (first
    | (go_at_call 58; refine (signed_2 (w.heap.size + 1) 0 31 25 11 7 _ (World.cell?_alloc_at _ _ _ _ (by simp)) (World.cell?_alloc_at _ _ _ _ (by simp)) (World.cell?_alloc_at _ _ _ _ (by simp)) (World.cell?_alloc_at _ _ _ _ (by simp)) (by simp)).mono ?_; rintro e w1 ⟨rfl, hb1⟩; have HZ : Hid (w.heap.size < w1.heap.size) := Lib.hid (by have := hb1.size; simp at this; omega); have HR : Hid (w1.heap[w.heap.size]? = some (.cells #[.int .i64 0, .int .i64 0, .int .i64 0, .int .i64 0, .int .i64 0, .int .i64 0, .int .i64 0, .int .i64 0, .int .i64 0, .int .i64 0, .bool false] 92 (0, 0))) := Lib.hid ((hb1.block w.heap.size (by simp; omega)).trans ((Below.heap_alloc _ _ w.heap.size (by simp)).trans (heap_alloc_new w _))); have HB1 := Lib.hid ((HB0.out.alloc (by simp) _).trans (hb1.mono (by simp; omega))); clear hb1)
    | (refine wpList_store_row rfl _ _ _ rfl w.heap.size _ rfl rfl 92 _ HR.out size42i rfl (by simp [Value.oneCell']) ?_))
  have hlv := run_loadVar_row (P := Tryd.prog) (w1.setRow w.heap.size #[.int .i64 31, .int .i64 25, .int .i64 11, .int .i64 7, .int .i64 0, .int .i64 0, .int .i64 0, .int .i64 0, .int .i64 2, .int .i64 0, .bool true]) w.heap.size 92 92 #[.int .i64 31, .int .i64 25, .int .i64 11, .int .i64 7, .int .i64 0, .int .i64 0, .int .i64 0, .int .i64 0, .int .i64 2, .int .i64 0, .bool true] (0, 0) _ (setRow_heap _ _ _ _ _ _ HR.out) Tryd.underlying92 rfl size42i
  exact bodyPost_ret (v := .tuple #[.agg #[.int .i64 31, .int .i64 25, .int .i64 11, .int .i64 7, .int .i64 0, .int .i64 0, .int .i64 0, .int .i64 0, .int .i64 2, .int .i64 0, .bool true], .bool true]) (by simp [results, Tryd.results48, hlv, asAddr]) rfl ⟨rfl, below_setRow HB1.out (Nat.le_refl _) _⟩

theorem find_3 (w : World) :
    Calls Tryd.prog 48 #[.int .i64 3] w fun e w' => e = .returned (.tuple #[.agg #[.int .i64 31, .int .i64 31, .int .i64 7, .int .i64 7, .int .i64 30, .int .i64 25, .int .i64 11, .int .i64 8, .int .i64 4, .int .i64 1, .bool true], .bool true]) ∧ Below w.heap.size w w' := by
  have HB0 : Hid (Below w.heap.size w (w.alloc (.cells #[.int .i64 0, .int .i64 0, .int .i64 0, .int .i64 0, .int .i64 0, .int .i64 0, .int .i64 0, .int .i64 0, .int .i64 0, .int .i64 0, .bool false] 92))) := Lib.hid ((Below.refl _ _).alloc (Nat.le_refl _) _)
  go_enter Tryd.func48, Tryd.ntmps48
  go_wp2_with (first
    | (go_at_call 58; refine (signed_4 (w.heap.size + 1) 1 31 31 7 7 30 25 11 8 _ (World.cell?_alloc_at _ _ _ _ (by simp)) (World.cell?_alloc_at _ _ _ _ (by simp)) (World.cell?_alloc_at _ _ _ _ (by simp)) (World.cell?_alloc_at _ _ _ _ (by simp)) (World.cell?_alloc_at _ _ _ _ (by simp)) (World.cell?_alloc_at _ _ _ _ (by simp)) (World.cell?_alloc_at _ _ _ _ (by simp)) (World.cell?_alloc_at _ _ _ _ (by simp)) (by simp)).mono ?_; rintro e w1 ⟨rfl, hb1⟩; have HZ : Hid (w.heap.size < w1.heap.size) := Lib.hid (by have := hb1.size; simp at this; omega); have HR : Hid (w1.heap[w.heap.size]? = some (.cells #[.int .i64 0, .int .i64 0, .int .i64 0, .int .i64 0, .int .i64 0, .int .i64 0, .int .i64 0, .int .i64 0, .int .i64 0, .int .i64 0, .bool false] 92 (0, 0))) := Lib.hid ((hb1.block w.heap.size (by simp; omega)).trans ((Below.heap_alloc _ _ w.heap.size (by simp)).trans (heap_alloc_new w _))); have HB1 := Lib.hid ((HB0.out.alloc (by simp) _).trans (hb1.mono (by simp; omega))); clear hb1)
    | (refine wpList_store_row rfl _ _ _ rfl w.heap.size _ rfl rfl 92 _ HR.out size42i rfl (by simp [Value.oneCell']) ?_))
  have hlv := run_loadVar_row (P := Tryd.prog) (w1.setRow w.heap.size #[.int .i64 31, .int .i64 31, .int .i64 7, .int .i64 7, .int .i64 30, .int .i64 25, .int .i64 11, .int .i64 8, .int .i64 4, .int .i64 1, .bool true]) w.heap.size 92 92 #[.int .i64 31, .int .i64 31, .int .i64 7, .int .i64 7, .int .i64 30, .int .i64 25, .int .i64 11, .int .i64 8, .int .i64 4, .int .i64 1, .bool true] (0, 0) _ (setRow_heap _ _ _ _ _ _ HR.out) Tryd.underlying92 rfl size42i
  exact bodyPost_ret (v := .tuple #[.agg #[.int .i64 31, .int .i64 31, .int .i64 7, .int .i64 7, .int .i64 30, .int .i64 25, .int .i64 11, .int .i64 8, .int .i64 4, .int .i64 1, .bool true], .bool true]) (by simp [results, Tryd.results48, hlv, asAddr]) rfl ⟨rfl, below_setRow HB1.out (Nat.le_refl _) _⟩

theorem find_4 (w : World) :
    Calls Tryd.prog 48 #[.int .i64 4] w fun e w' => e = .returned (.tuple #[.agg #[.int .i64 31, .int .i64 12, .int .i64 0, .int .i64 0, .int .i64 0, .int .i64 0, .int .i64 0, .int .i64 0, .int .i64 1, .int .i64 12, .bool true], .bool true]) ∧ Below w.heap.size w w' := by
  have HB0 : Hid (Below w.heap.size w (w.alloc (.cells #[.int .i64 0, .int .i64 0, .int .i64 0, .int .i64 0, .int .i64 0, .int .i64 0, .int .i64 0, .int .i64 0, .int .i64 0, .int .i64 0, .bool false] 92))) := Lib.hid ((Below.refl _ _).alloc (Nat.le_refl _) _)
  go_enter Tryd.func48, Tryd.ntmps48
  go_wp2_with (first
    | (go_at_call 58; refine (signed_1 (w.heap.size + 1) 12 31 12 _ (World.cell?_alloc_at _ _ _ _ (by simp)) (World.cell?_alloc_at _ _ _ _ (by simp)) (by simp)).mono ?_; rintro e w1 ⟨rfl, hb1⟩; have HZ : Hid (w.heap.size < w1.heap.size) := Lib.hid (by have := hb1.size; simp at this; omega); have HR : Hid (w1.heap[w.heap.size]? = some (.cells #[.int .i64 0, .int .i64 0, .int .i64 0, .int .i64 0, .int .i64 0, .int .i64 0, .int .i64 0, .int .i64 0, .int .i64 0, .int .i64 0, .bool false] 92 (0, 0))) := Lib.hid ((hb1.block w.heap.size (by simp; omega)).trans ((Below.heap_alloc _ _ w.heap.size (by simp)).trans (heap_alloc_new w _))); have HB1 := Lib.hid ((HB0.out.alloc (by simp) _).trans (hb1.mono (by simp; omega))); clear hb1)
    | (refine wpList_store_row rfl _ _ _ rfl w.heap.size _ rfl rfl 92 _ HR.out size42i rfl (by simp [Value.oneCell']) ?_))
  have hlv := run_loadVar_row (P := Tryd.prog) (w1.setRow w.heap.size #[.int .i64 31, .int .i64 12, .int .i64 0, .int .i64 0, .int .i64 0, .int .i64 0, .int .i64 0, .int .i64 0, .int .i64 1, .int .i64 12, .bool true]) w.heap.size 92 92 #[.int .i64 31, .int .i64 12, .int .i64 0, .int .i64 0, .int .i64 0, .int .i64 0, .int .i64 0, .int .i64 0, .int .i64 1, .int .i64 12, .bool true] (0, 0) _ (setRow_heap _ _ _ _ _ _ HR.out) Tryd.underlying92 rfl size42i
  exact bodyPost_ret (v := .tuple #[.agg #[.int .i64 31, .int .i64 12, .int .i64 0, .int .i64 0, .int .i64 0, .int .i64 0, .int .i64 0, .int .i64 0, .int .i64 1, .int .i64 12, .bool true], .bool true]) (by simp [results, Tryd.results48, hlv, asAddr]) rfl ⟨rfl, below_setRow HB1.out (Nat.le_refl _) _⟩

theorem find_5 (w : World) :
    Calls Tryd.prog 48 #[.int .i64 5] w fun e w' => e = .returned (.tuple #[.agg #[.int .i64 31, .int .i64 31, .int .i64 19, .int .i64 12, .int .i64 20, .int .i64 20, .int .i64 30, .int .i64 21, .int .i64 4, .int .i64 1, .bool true], .bool true]) ∧ Below w.heap.size w w' := by
  have HB0 : Hid (Below w.heap.size w (w.alloc (.cells #[.int .i64 0, .int .i64 0, .int .i64 0, .int .i64 0, .int .i64 0, .int .i64 0, .int .i64 0, .int .i64 0, .int .i64 0, .int .i64 0, .bool false] 92))) := Lib.hid ((Below.refl _ _).alloc (Nat.le_refl _) _)
  go_enter Tryd.func48, Tryd.ntmps48
  go_wp2_with (first
    | (go_at_call 58; refine (signed_4 (w.heap.size + 1) 1 31 31 19 12 20 20 30 21 _ (World.cell?_alloc_at _ _ _ _ (by simp)) (World.cell?_alloc_at _ _ _ _ (by simp)) (World.cell?_alloc_at _ _ _ _ (by simp)) (World.cell?_alloc_at _ _ _ _ (by simp)) (World.cell?_alloc_at _ _ _ _ (by simp)) (World.cell?_alloc_at _ _ _ _ (by simp)) (World.cell?_alloc_at _ _ _ _ (by simp)) (World.cell?_alloc_at _ _ _ _ (by simp)) (by simp)).mono ?_; rintro e w1 ⟨rfl, hb1⟩; have HZ : Hid (w.heap.size < w1.heap.size) := Lib.hid (by have := hb1.size; simp at this; omega); have HR : Hid (w1.heap[w.heap.size]? = some (.cells #[.int .i64 0, .int .i64 0, .int .i64 0, .int .i64 0, .int .i64 0, .int .i64 0, .int .i64 0, .int .i64 0, .int .i64 0, .int .i64 0, .bool false] 92 (0, 0))) := Lib.hid ((hb1.block w.heap.size (by simp; omega)).trans ((Below.heap_alloc _ _ w.heap.size (by simp)).trans (heap_alloc_new w _))); have HB1 := Lib.hid ((HB0.out.alloc (by simp) _).trans (hb1.mono (by simp; omega))); clear hb1)
    | (refine wpList_store_row rfl _ _ _ rfl w.heap.size _ rfl rfl 92 _ HR.out size42i rfl (by simp [Value.oneCell']) ?_))
  have hlv := run_loadVar_row (P := Tryd.prog) (w1.setRow w.heap.size #[.int .i64 31, .int .i64 31, .int .i64 19, .int .i64 12, .int .i64 20, .int .i64 20, .int .i64 30, .int .i64 21, .int .i64 4, .int .i64 1, .bool true]) w.heap.size 92 92 #[.int .i64 31, .int .i64 31, .int .i64 19, .int .i64 12, .int .i64 20, .int .i64 20, .int .i64 30, .int .i64 21, .int .i64 4, .int .i64 1, .bool true] (0, 0) _ (setRow_heap _ _ _ _ _ _ HR.out) Tryd.underlying92 rfl size42i
  exact bodyPost_ret (v := .tuple #[.agg #[.int .i64 31, .int .i64 31, .int .i64 19, .int .i64 12, .int .i64 20, .int .i64 20, .int .i64 30, .int .i64 21, .int .i64 4, .int .i64 1, .bool true], .bool true]) (by simp [results, Tryd.results48, hlv, asAddr]) rfl ⟨rfl, below_setRow HB1.out (Nat.le_refl _) _⟩

theorem find_6 (w : World) :
    Calls Tryd.prog 48 #[.int .i64 6] w fun e w' => e = .returned (.tuple #[.agg #[.int .i64 25, .int .i64 20, .int .i64 0, .int .i64 0, .int .i64 0, .int .i64 0, .int .i64 0, .int .i64 0, .int .i64 1, .int .i64 0, .bool false], .bool true]) ∧ Below w.heap.size w w' := by
  have HB0 : Hid (Below w.heap.size w (w.alloc (.cells #[.int .i64 0, .int .i64 0, .int .i64 0, .int .i64 0, .int .i64 0, .int .i64 0, .int .i64 0, .int .i64 0, .int .i64 0, .int .i64 0, .bool false] 92))) := Lib.hid ((Below.refl _ _).alloc (Nat.le_refl _) _)
  go_enter Tryd.func48, Tryd.ntmps48
  go_wp2_with (first
    | (go_at_call 59; refine (unsigned_1 (w.heap.size + 1) 25 20 _ (World.cell?_alloc_at _ _ _ _ (by simp)) (World.cell?_alloc_at _ _ _ _ (by simp)) (by simp)).mono ?_; rintro e w1 ⟨rfl, hb1⟩; have HZ : Hid (w.heap.size < w1.heap.size) := Lib.hid (by have := hb1.size; simp at this; omega); have HR : Hid (w1.heap[w.heap.size]? = some (.cells #[.int .i64 0, .int .i64 0, .int .i64 0, .int .i64 0, .int .i64 0, .int .i64 0, .int .i64 0, .int .i64 0, .int .i64 0, .int .i64 0, .bool false] 92 (0, 0))) := Lib.hid ((hb1.block w.heap.size (by simp; omega)).trans ((Below.heap_alloc _ _ w.heap.size (by simp)).trans (heap_alloc_new w _))); have HB1 := Lib.hid ((HB0.out.alloc (by simp) _).trans (hb1.mono (by simp; omega))); clear hb1)
    | (refine wpList_store_row rfl _ _ _ rfl w.heap.size _ rfl rfl 92 _ HR.out size42i rfl (by simp [Value.oneCell']) ?_))
  have hlv := run_loadVar_row (P := Tryd.prog) (w1.setRow w.heap.size #[.int .i64 25, .int .i64 20, .int .i64 0, .int .i64 0, .int .i64 0, .int .i64 0, .int .i64 0, .int .i64 0, .int .i64 1, .int .i64 0, .bool false]) w.heap.size 92 92 #[.int .i64 25, .int .i64 20, .int .i64 0, .int .i64 0, .int .i64 0, .int .i64 0, .int .i64 0, .int .i64 0, .int .i64 1, .int .i64 0, .bool false] (0, 0) _ (setRow_heap _ _ _ _ _ _ HR.out) Tryd.underlying92 rfl size42i
  exact bodyPost_ret (v := .tuple #[.agg #[.int .i64 25, .int .i64 20, .int .i64 0, .int .i64 0, .int .i64 0, .int .i64 0, .int .i64 0, .int .i64 0, .int .i64 1, .int .i64 0, .bool false], .bool true]) (by simp [results, Tryd.results48, hlv, asAddr]) rfl ⟨rfl, below_setRow HB1.out (Nat.le_refl _) _⟩

theorem find_7 (w : World) :
    Calls Tryd.prog 48 #[.int .i64 7] w fun e w' => e = .returned (.tuple #[.agg #[.int .i64 24, .int .i64 20, .int .i64 0, .int .i64 0, .int .i64 0, .int .i64 0, .int .i64 0, .int .i64 0, .int .i64 1, .int .i64 0, .bool false], .bool true]) ∧ Below w.heap.size w w' := by
  have HB0 : Hid (Below w.heap.size w (w.alloc (.cells #[.int .i64 0, .int .i64 0, .int .i64 0, .int .i64 0, .int .i64 0, .int .i64 0, .int .i64 0, .int .i64 0, .int .i64 0, .int .i64 0, .bool false] 92))) := Lib.hid ((Below.refl _ _).alloc (Nat.le_refl _) _)
  go_enter Tryd.func48, Tryd.ntmps48
  go_wp2_with (first
    | (go_at_call 59; refine (unsigned_1 (w.heap.size + 1) 24 20 _ (World.cell?_alloc_at _ _ _ _ (by simp)) (World.cell?_alloc_at _ _ _ _ (by simp)) (by simp)).mono ?_; rintro e w1 ⟨rfl, hb1⟩; have HZ : Hid (w.heap.size < w1.heap.size) := Lib.hid (by have := hb1.size; simp at this; omega); have HR : Hid (w1.heap[w.heap.size]? = some (.cells #[.int .i64 0, .int .i64 0, .int .i64 0, .int .i64 0, .int .i64 0, .int .i64 0, .int .i64 0, .int .i64 0, .int .i64 0, .int .i64 0, .bool false] 92 (0, 0))) := Lib.hid ((hb1.block w.heap.size (by simp; omega)).trans ((Below.heap_alloc _ _ w.heap.size (by simp)).trans (heap_alloc_new w _))); have HB1 := Lib.hid ((HB0.out.alloc (by simp) _).trans (hb1.mono (by simp; omega))); clear hb1)
    | (refine wpList_store_row rfl _ _ _ rfl w.heap.size _ rfl rfl 92 _ HR.out size42i rfl (by simp [Value.oneCell']) ?_))
  have hlv := run_loadVar_row (P := Tryd.prog) (w1.setRow w.heap.size #[.int .i64 24, .int .i64 20, .int .i64 0, .int .i64 0, .int .i64 0, .int .i64 0, .int .i64 0, .int .i64 0, .int .i64 1, .int .i64 0, .bool false]) w.heap.size 92 92 #[.int .i64 24, .int .i64 20, .int .i64 0, .int .i64 0, .int .i64 0, .int .i64 0, .int .i64 0, .int .i64 0, .int .i64 1, .int .i64 0, .bool false] (0, 0) _ (setRow_heap _ _ _ _ _ _ HR.out) Tryd.underlying92 rfl size42i
  exact bodyPost_ret (v := .tuple #[.agg #[.int .i64 24, .int .i64 20, .int .i64 0, .int .i64 0, .int .i64 0, .int .i64 0, .int .i64 0, .int .i64 0, .int .i64 1, .int .i64 0, .bool false], .bool true]) (by simp [results, Tryd.results48, hlv, asAddr]) rfl ⟨rfl, below_setRow HB1.out (Nat.le_refl _) _⟩

theorem find_8 (w : World) :
    Calls Tryd.prog 48 #[.int .i64 8] w fun e w' => e = .returned (.tuple #[.agg #[.int .i64 31, .int .i64 20, .int .i64 0, .int .i64 0, .int .i64 0, .int .i64 0, .int .i64 0, .int .i64 0, .int .i64 1, .int .i64 0, .bool false], .bool true]) ∧ Below w.heap.size w w' := by
  have HB0 : Hid (Below w.heap.size w (w.alloc (.cells #[.int .i64 0, .int .i64 0, .int .i64 0, .int .i64 0, .int .i64 0, .int .i64 0, .int .i64 0, .int .i64 0, .int .i64 0, .int .i64 0, .bool false] 92))) := Lib.hid ((Below.refl _ _).alloc (Nat.le_refl _) _)
  go_enter Tryd.func48, Tryd.ntmps48
  go_wp2_with (first
    | (go_at_call 59; refine (unsigned_1 (w.heap.size + 1) 31 20 _ (World.cell?_alloc_at _ _ _ _ (by simp)) (World.cell?_alloc_at _ _ _ _ (by simp)) (by simp)).mono ?_; rintro e w1 ⟨rfl, hb1⟩; have HZ : Hid (w.heap.size < w1.heap.size) := Lib.hid (by have := hb1.size; simp at this; omega); have HR : Hid (w1.heap[w.heap.size]? = some (.cells #[.int .i64 0, .int .i64 0, .int .i64 0, .int .i64 0, .int .i64 0, .int .i64 0, .int .i64 0, .int .i64 0, .int .i64 0, .int .i64 0, .bool false] 92 (0, 0))) := Lib.hid ((hb1.block w.heap.size (by simp; omega)).trans ((Below.heap_alloc _ _ w.heap.size (by simp)).trans (heap_alloc_new w _))); have HB1 := Lib.hid ((HB0.out.alloc (by simp) _).trans (hb1.mono (by simp; omega))); clear hb1)
    | (refine wpList_store_row rfl _ _ _ rfl w.heap.size _ rfl rfl 92 _ HR.out size42i rfl (by simp [Value.oneCell']) ?_))
  have hlv := run_loadVar_row (P := Tryd.prog) (w1.setRow w.heap.size #[.int .i64 31, .int .i64 20, .int .i64 0, .int .i64 0, .int .i64 0, .int .i64 0, .int .i64 0, .int .i64 0, .int .i64 1, .int .i64 0, .bool false]) w.heap.size 92 92 #[.int .i64 31, .int .i64 20, .int .i64 0, .int .i64 0, .int .i64 0, .int .i64 0, .int .i64 0, .int .i64 0, .int .i64 1, .int .i64 0, .bool false] (0, 0) _ (setRow_heap _ _ _ _ _ _ HR.out) Tryd.underlying92 rfl size42i
  exact bodyPost_ret (v := .tuple #[.agg #[.int .i64 31, .int .i64 20, .int .i64 0, .int .i64 0, .int .i64 0, .int .i64 0, .int .i64 0, .int .i64 0, .int .i64 1, .int .i64 0, .bool false], .bool true]) (by simp [results, Tryd.results48, hlv, asAddr]) rfl ⟨rfl, below_setRow HB1.out (Nat.le_refl _) _⟩

theorem find_9 (w : World) :
    Calls Tryd.prog 48 #[.int .i64 9] w fun e w' => e = .returned (.tuple #[.agg #[.int .i64 19, .int .i64 15, .int .i64 0, .int .i64 0, .int .i64 0, .int .i64 0, .int .i64 0, .int .i64 0, .int .i64 1, .int .i64 0, .bool false], .bool true]) ∧ Below w.heap.size w w' := by
  have HB0 : Hid (Below w.heap.size w (w.alloc (.cells #[.int .i64 0, .int .i64 0, .int .i64 0, .int .i64 0, .int .i64 0, .int .i64 0, .int .i64 0, .int .i64 0, .int .i64 0, .int .i64 0, .bool false] 92))) := Lib.hid ((Below.refl _ _).alloc (Nat.le_refl _) _)
  go_enter Tryd.func48, Tryd.ntmps48
  go_wp2_with (first
    | (go_at_call 59; refine (unsigned_1 (w.heap.size + 1) 19 15 _ (World.cell?_alloc_at _ _ _ _ (by simp)) (World.cell?_alloc_at _ _ _ _ (by simp)) (by simp)).mono ?_; rintro e w1 ⟨rfl, hb1⟩; have HZ : Hid (w.heap.size < w1.heap.size) := Lib.hid (by have := hb1.size; simp at this; omega); have HR : Hid (w1.heap[w.heap.size]? = some (.cells #[.int .i64 0, .int .i64 0, .int .i64 0, .int .i64 0, .int .i64 0, .int .i64 0, .int .i64 0, .int .i64 0, .int .i64 0, .int .i64 0, .bool false] 92 (0, 0))) := Lib.hid ((hb1.block w.heap.size (by simp; omega)).trans ((Below.heap_alloc _ _ w.heap.size (by simp)).trans (heap_alloc_new w _))); have HB1 := Lib.hid ((HB0.out.alloc (by simp) _).trans (hb1.mono (by simp; omega))); clear hb1)
    | (refine wpList_store_row rfl _ _ _ rfl w.heap.size _ rfl rfl 92 _ HR.out size42i rfl (by simp [Value.oneCell']) ?_))
  have hlv := run_loadVar_row (P := Tryd.prog) (w1.setRow w.heap.size #[.int .i64 19, .int .i64 15, .int .i64 0, .int .i64 0, .int .i64 0, .int .i64 0, .int .i64 0, .int .i64 0, .int .i64 1, .int .i64 0, .bool false]) w.heap.size 92 92 #[.int .i64 19, .int .i64 15, .int .i64 0, .int .i64 0, .int .i64 0, .int .i64 0, .int .i64 0, .int .i64 0, .int .i64 1, .int .i64 0, .bool false] (0, 0) _ (setRow_heap _ _ _ _ _ _ HR.out) Tryd.underlying92 rfl size42i
  exact bodyPost_ret (v := .tuple #[.agg #[.int .i64 19, .int .i64 15, .int .i64 0, .int .i64 0, .int .i64 0, .int .i64 0, .int .i64 0, .int .i64 0, .int .i64 1, .int .i64 0, .bool false], .bool true]) (by simp [results, Tryd.results48, hlv, asAddr]) rfl ⟨rfl, below_setRow HB1.out (Nat.le_refl _) _⟩

theorem find_no (f : Int) (h : ¬ (1 ≤ f ∧ f ≤ 9)) (w : World) :
    Calls Tryd.prog 48 #[.int .i64 f] w fun e w' => e = .returned (.tuple #[.agg #[.int .i64 0, .int .i64 0, .int .i64 0, .int .i64 0, .int .i64 0, .int .i64 0, .int .i64 0, .int .i64 0, .int .i64 0, .int .i64 0, .bool false], .bool false]) ∧ Below w.heap.size w w' := by
  have n1 : (f == 1) = false := by rw [beq_eq_false_iff_ne]; omega
  have n2 : (f == 2) = false := by rw [beq_eq_false_iff_ne]; omega
  have n3 : (f == 3) = false := by rw [beq_eq_false_iff_ne]; omega
  have n4 : (f == 4) = false := by rw [beq_eq_false_iff_ne]; omega
  have n5 : (f == 5) = false := by rw [beq_eq_false_iff_ne]; omega
  have n6 : (f == 6) = false := by rw [beq_eq_false_iff_ne]; omega
  have n7 : (f == 7) = false := by rw [beq_eq_false_iff_ne]; omega
  have n8 : (f == 8) = false := by rw [beq_eq_false_iff_ne]; omega
  have n9 : (f == 9) = false := by rw [beq_eq_false_iff_ne]; omega
  clear h
  go_enter Tryd.func48, Tryd.ntmps48
  go_wp2
  exact bodyPost_ret (v := .tuple #[.agg #[.int .i64 0, .int .i64 0, .int .i64 0, .int .i64 0, .int .i64 0, .int .i64 0, .int .i64 0, .int .i64 0, .int .i64 0, .int .i64 0, .bool false], .bool false]) (by simp [results, Tryd.results48, go_sem]) rfl ⟨rfl, (Below.refl _ _).alloc (Nat.le_refl _) _⟩

/-- The numbers that are a form's. -/
def isForm (f : Int) : Prop := 1 ≤ f ∧ f ≤ 9
theorem find_any (k : Nat) (hk : 1 ≤ k ∧ k ≤ 9) (w : World) :
    Calls Tryd.prog 48 #[.int .i64 k] w fun e w' => e = .returned (.tuple #[(formL k).val, .bool true]) ∧ Below w.heap.size w w' := by
  match k, hk with
  | 1, _ => exact find_1 w
  | 2, _ => exact find_2 w
  | 3, _ => exact find_3 w
  | 4, _ => exact find_4 w
  | 5, _ => exact find_5 w
  | 6, _ => exact find_6 w
  | 7, _ => exact find_7 w
  | 8, _ => exact find_8 w
  | 9, _ => exact find_9 w
  | k + 10, hk => omega

end Go.Proofs.YtehlihhnkojjeaaDoor
