/- Joined: FdE FdF Ints FdG FdH FdI FdJ FdK DcB ShA ShB AsE Only DsA DsB -/
import Derived.Test.YtakdhdaoklcidaaGreatDoorKV1
import Derived.WalkKit
import Derived.ProofKit
import Derived.WalkSmall
import Derived.OpenShut
import Derived.Laws.AppendOwn
import Derived.Test.YtakdhdaoklcidaaGreatDoorRows
import Derived.Shelf.Strings.Cut
import Derived.Shelf.Small.Wraps
import Derived.Shelf.Strings.Prefix
import Derived.Shelf.Strings.BuilderK
import Derived.Shelf.Strconv.Itoa4
import Derived.Shelf.Strconv.ErrVarAll
import Derived.Shelf.Strconv.ErrVarParseInt
import Derived.Lib.AppendIntMem
import Derived.Lib.ItoaLen
import Derived.Lib.AtoiErrMem
import Derived.Below
import Derived.Laws.Rows
import Derived.Laws.Tables
import Derived.Deep.CutBlock
import Derived.Great.Frames
namespace Go.Proofs.YtakdhdaoklcidaaGreatDoor
open Go.RowKit
set_option linter.unusedVariables false
set_option maxRecDepth 100000
theorem find_1 (w : World) :
    Calls Tryz.prog 72 #[.int .i64 1] w fun e w' => e = .returned (.tuple #[.agg #[.int .i64 31, .int .i64 20, .int .i64 0, .int .i64 0, .int .i64 0, .int .i64 0, .int .i64 0, .int .i64 0, .int .i64 1, .int .i64 0, .bool true], .bool true]) ∧ Below w.heap.size w w' := by
  have HB0 : Hid (Below w.heap.size w (w.alloc (.cells #[.int .i64 0, .int .i64 0, .int .i64 0, .int .i64 0, .int .i64 0, .int .i64 0, .int .i64 0, .int .i64 0, .int .i64 0, .int .i64 0, .bool false] 121))) := Lib.hid ((Below.refl _ _).alloc (Nat.le_refl _) _)
  go_enter Tryz.func72, Tryz.ntmps72
  go_wp2_with (first
    | (go_at_call 100; refine (signed_1 (w.heap.size + 1) 0 31 20 _ (World.cell?_alloc_at _ _ _ _ (by simp)) (World.cell?_alloc_at _ _ _ _ (by simp)) (by simp)).mono ?_; rintro e w1 ⟨rfl, hb1⟩; have HZ : Hid (w.heap.size < w1.heap.size) := Lib.hid (by have := hb1.size; simp at this; omega); have HR : Hid (w1.heap[w.heap.size]? = some (.cells #[.int .i64 0, .int .i64 0, .int .i64 0, .int .i64 0, .int .i64 0, .int .i64 0, .int .i64 0, .int .i64 0, .int .i64 0, .int .i64 0, .bool false] 121 (0, 0))) := Lib.hid ((hb1.block w.heap.size (by simp; omega)).trans ((Below.heap_alloc _ _ w.heap.size (by simp)).trans (heap_alloc_new w _))); have HB1 := Lib.hid ((HB0.out.alloc (by simp) _).trans (hb1.mono (by simp; omega))); clear hb1)
    | (refine wpList_store_row rfl _ _ _ rfl w.heap.size _ rfl rfl 121 _ HR.out size42i rfl (by simp [Value.oneCell']) ?_))
  have hlv := run_loadVar_row (P := Tryz.prog) (w1.setRow w.heap.size #[.int .i64 31, .int .i64 20, .int .i64 0, .int .i64 0, .int .i64 0, .int .i64 0, .int .i64 0, .int .i64 0, .int .i64 1, .int .i64 0, .bool true]) w.heap.size 121 121 #[.int .i64 31, .int .i64 20, .int .i64 0, .int .i64 0, .int .i64 0, .int .i64 0, .int .i64 0, .int .i64 0, .int .i64 1, .int .i64 0, .bool true] (0, 0) _ (setRow_heap _ _ _ _ _ _ HR.out) Tryz.underlying121 rfl size42i
  exact bodyPost_ret (v := .tuple #[.agg #[.int .i64 31, .int .i64 20, .int .i64 0, .int .i64 0, .int .i64 0, .int .i64 0, .int .i64 0, .int .i64 0, .int .i64 1, .int .i64 0, .bool true], .bool true]) (by simp [results, Tryz.results72, hlv, asAddr]) rfl ⟨rfl, below_setRow HB1.out (Nat.le_refl _) _⟩
theorem find_2 (w : World) :
    Calls Tryz.prog 72 #[.int .i64 2] w fun e w' => e = .returned (.tuple #[.agg #[.int .i64 31, .int .i64 25, .int .i64 11, .int .i64 7, .int .i64 0, .int .i64 0, .int .i64 0, .int .i64 0, .int .i64 2, .int .i64 0, .bool true], .bool true]) ∧ Below w.heap.size w w' := by
  have HB0 : Hid (Below w.heap.size w (w.alloc (.cells #[.int .i64 0, .int .i64 0, .int .i64 0, .int .i64 0, .int .i64 0, .int .i64 0, .int .i64 0, .int .i64 0, .int .i64 0, .int .i64 0, .bool false] 121))) := Lib.hid ((Below.refl _ _).alloc (Nat.le_refl _) _)
  go_enter Tryz.func72, Tryz.ntmps72
  go_wp2_with (first
    | (go_at_call 100; refine (signed_2 (w.heap.size + 1) 0 31 25 11 7 _ (World.cell?_alloc_at _ _ _ _ (by simp)) (World.cell?_alloc_at _ _ _ _ (by simp)) (World.cell?_alloc_at _ _ _ _ (by simp)) (World.cell?_alloc_at _ _ _ _ (by simp)) (by simp)).mono ?_; rintro e w1 ⟨rfl, hb1⟩; have HZ : Hid (w.heap.size < w1.heap.size) := Lib.hid (by have := hb1.size; simp at this; omega); have HR : Hid (w1.heap[w.heap.size]? = some (.cells #[.int .i64 0, .int .i64 0, .int .i64 0, .int .i64 0, .int .i64 0, .int .i64 0, .int .i64 0, .int .i64 0, .int .i64 0, .int .i64 0, .bool false] 121 (0, 0))) := Lib.hid ((hb1.block w.heap.size (by simp; omega)).trans ((Below.heap_alloc _ _ w.heap.size (by simp)).trans (heap_alloc_new w _))); have HB1 := Lib.hid ((HB0.out.alloc (by simp) _).trans (hb1.mono (by simp; omega))); clear hb1)
    | (refine wpList_store_row rfl _ _ _ rfl w.heap.size _ rfl rfl 121 _ HR.out size42i rfl (by simp [Value.oneCell']) ?_))
  have hlv := run_loadVar_row (P := Tryz.prog) (w1.setRow w.heap.size #[.int .i64 31, .int .i64 25, .int .i64 11, .int .i64 7, .int .i64 0, .int .i64 0, .int .i64 0, .int .i64 0, .int .i64 2, .int .i64 0, .bool true]) w.heap.size 121 121 #[.int .i64 31, .int .i64 25, .int .i64 11, .int .i64 7, .int .i64 0, .int .i64 0, .int .i64 0, .int .i64 0, .int .i64 2, .int .i64 0, .bool true] (0, 0) _ (setRow_heap _ _ _ _ _ _ HR.out) Tryz.underlying121 rfl size42i
  exact bodyPost_ret (v := .tuple #[.agg #[.int .i64 31, .int .i64 25, .int .i64 11, .int .i64 7, .int .i64 0, .int .i64 0, .int .i64 0, .int .i64 0, .int .i64 2, .int .i64 0, .bool true], .bool true]) (by simp [results, Tryz.results72, hlv, asAddr]) rfl ⟨rfl, below_setRow HB1.out (Nat.le_refl _) _⟩
theorem find_3 (w : World) :
    Calls Tryz.prog 72 #[.int .i64 3] w fun e w' => e = .returned (.tuple #[.agg #[.int .i64 31, .int .i64 31, .int .i64 7, .int .i64 7, .int .i64 30, .int .i64 25, .int .i64 11, .int .i64 8, .int .i64 4, .int .i64 1, .bool true], .bool true]) ∧ Below w.heap.size w w' := by
  have HB0 : Hid (Below w.heap.size w (w.alloc (.cells #[.int .i64 0, .int .i64 0, .int .i64 0, .int .i64 0, .int .i64 0, .int .i64 0, .int .i64 0, .int .i64 0, .int .i64 0, .int .i64 0, .bool false] 121))) := Lib.hid ((Below.refl _ _).alloc (Nat.le_refl _) _)
  go_enter Tryz.func72, Tryz.ntmps72
  go_wp2_with (first
    | (go_at_call 100; refine (signed_4 (w.heap.size + 1) 1 31 31 7 7 30 25 11 8 _ (World.cell?_alloc_at _ _ _ _ (by simp)) (World.cell?_alloc_at _ _ _ _ (by simp)) (World.cell?_alloc_at _ _ _ _ (by simp)) (World.cell?_alloc_at _ _ _ _ (by simp)) (World.cell?_alloc_at _ _ _ _ (by simp)) (World.cell?_alloc_at _ _ _ _ (by simp)) (World.cell?_alloc_at _ _ _ _ (by simp)) (World.cell?_alloc_at _ _ _ _ (by simp)) (by simp)).mono ?_; rintro e w1 ⟨rfl, hb1⟩; have HZ : Hid (w.heap.size < w1.heap.size) := Lib.hid (by have := hb1.size; simp at this; omega); have HR : Hid (w1.heap[w.heap.size]? = some (.cells #[.int .i64 0, .int .i64 0, .int .i64 0, .int .i64 0, .int .i64 0, .int .i64 0, .int .i64 0, .int .i64 0, .int .i64 0, .int .i64 0, .bool false] 121 (0, 0))) := Lib.hid ((hb1.block w.heap.size (by simp; omega)).trans ((Below.heap_alloc _ _ w.heap.size (by simp)).trans (heap_alloc_new w _))); have HB1 := Lib.hid ((HB0.out.alloc (by simp) _).trans (hb1.mono (by simp; omega))); clear hb1)
    | (refine wpList_store_row rfl _ _ _ rfl w.heap.size _ rfl rfl 121 _ HR.out size42i rfl (by simp [Value.oneCell']) ?_))
  have hlv := run_loadVar_row (P := Tryz.prog) (w1.setRow w.heap.size #[.int .i64 31, .int .i64 31, .int .i64 7, .int .i64 7, .int .i64 30, .int .i64 25, .int .i64 11, .int .i64 8, .int .i64 4, .int .i64 1, .bool true]) w.heap.size 121 121 #[.int .i64 31, .int .i64 31, .int .i64 7, .int .i64 7, .int .i64 30, .int .i64 25, .int .i64 11, .int .i64 8, .int .i64 4, .int .i64 1, .bool true] (0, 0) _ (setRow_heap _ _ _ _ _ _ HR.out) Tryz.underlying121 rfl size42i
  exact bodyPost_ret (v := .tuple #[.agg #[.int .i64 31, .int .i64 31, .int .i64 7, .int .i64 7, .int .i64 30, .int .i64 25, .int .i64 11, .int .i64 8, .int .i64 4, .int .i64 1, .bool true], .bool true]) (by simp [results, Tryz.results72, hlv, asAddr]) rfl ⟨rfl, below_setRow HB1.out (Nat.le_refl _) _⟩
theorem find_4 (w : World) :
    Calls Tryz.prog 72 #[.int .i64 4] w fun e w' => e = .returned (.tuple #[.agg #[.int .i64 31, .int .i64 12, .int .i64 0, .int .i64 0, .int .i64 0, .int .i64 0, .int .i64 0, .int .i64 0, .int .i64 1, .int .i64 12, .bool true], .bool true]) ∧ Below w.heap.size w w' := by
  have HB0 : Hid (Below w.heap.size w (w.alloc (.cells #[.int .i64 0, .int .i64 0, .int .i64 0, .int .i64 0, .int .i64 0, .int .i64 0, .int .i64 0, .int .i64 0, .int .i64 0, .int .i64 0, .bool false] 121))) := Lib.hid ((Below.refl _ _).alloc (Nat.le_refl _) _)
  go_enter Tryz.func72, Tryz.ntmps72
  go_wp2_with (first
    | (go_at_call 100; refine (signed_1 (w.heap.size + 1) 12 31 12 _ (World.cell?_alloc_at _ _ _ _ (by simp)) (World.cell?_alloc_at _ _ _ _ (by simp)) (by simp)).mono ?_; rintro e w1 ⟨rfl, hb1⟩; have HZ : Hid (w.heap.size < w1.heap.size) := Lib.hid (by have := hb1.size; simp at this; omega); have HR : Hid (w1.heap[w.heap.size]? = some (.cells #[.int .i64 0, .int .i64 0, .int .i64 0, .int .i64 0, .int .i64 0, .int .i64 0, .int .i64 0, .int .i64 0, .int .i64 0, .int .i64 0, .bool false] 121 (0, 0))) := Lib.hid ((hb1.block w.heap.size (by simp; omega)).trans ((Below.heap_alloc _ _ w.heap.size (by simp)).trans (heap_alloc_new w _))); have HB1 := Lib.hid ((HB0.out.alloc (by simp) _).trans (hb1.mono (by simp; omega))); clear hb1)
    | (refine wpList_store_row rfl _ _ _ rfl w.heap.size _ rfl rfl 121 _ HR.out size42i rfl (by simp [Value.oneCell']) ?_))
  have hlv := run_loadVar_row (P := Tryz.prog) (w1.setRow w.heap.size #[.int .i64 31, .int .i64 12, .int .i64 0, .int .i64 0, .int .i64 0, .int .i64 0, .int .i64 0, .int .i64 0, .int .i64 1, .int .i64 12, .bool true]) w.heap.size 121 121 #[.int .i64 31, .int .i64 12, .int .i64 0, .int .i64 0, .int .i64 0, .int .i64 0, .int .i64 0, .int .i64 0, .int .i64 1, .int .i64 12, .bool true] (0, 0) _ (setRow_heap _ _ _ _ _ _ HR.out) Tryz.underlying121 rfl size42i
  exact bodyPost_ret (v := .tuple #[.agg #[.int .i64 31, .int .i64 12, .int .i64 0, .int .i64 0, .int .i64 0, .int .i64 0, .int .i64 0, .int .i64 0, .int .i64 1, .int .i64 12, .bool true], .bool true]) (by simp [results, Tryz.results72, hlv, asAddr]) rfl ⟨rfl, below_setRow HB1.out (Nat.le_refl _) _⟩
theorem find_5 (w : World) :
    Calls Tryz.prog 72 #[.int .i64 5] w fun e w' => e = .returned (.tuple #[.agg #[.int .i64 31, .int .i64 31, .int .i64 19, .int .i64 12, .int .i64 20, .int .i64 20, .int .i64 30, .int .i64 21, .int .i64 4, .int .i64 1, .bool true], .bool true]) ∧ Below w.heap.size w w' := by
  have HB0 : Hid (Below w.heap.size w (w.alloc (.cells #[.int .i64 0, .int .i64 0, .int .i64 0, .int .i64 0, .int .i64 0, .int .i64 0, .int .i64 0, .int .i64 0, .int .i64 0, .int .i64 0, .bool false] 121))) := Lib.hid ((Below.refl _ _).alloc (Nat.le_refl _) _)
  go_enter Tryz.func72, Tryz.ntmps72
  go_wp2_with (first
    | (go_at_call 100; refine (signed_4 (w.heap.size + 1) 1 31 31 19 12 20 20 30 21 _ (World.cell?_alloc_at _ _ _ _ (by simp)) (World.cell?_alloc_at _ _ _ _ (by simp)) (World.cell?_alloc_at _ _ _ _ (by simp)) (World.cell?_alloc_at _ _ _ _ (by simp)) (World.cell?_alloc_at _ _ _ _ (by simp)) (World.cell?_alloc_at _ _ _ _ (by simp)) (World.cell?_alloc_at _ _ _ _ (by simp)) (World.cell?_alloc_at _ _ _ _ (by simp)) (by simp)).mono ?_; rintro e w1 ⟨rfl, hb1⟩; have HZ : Hid (w.heap.size < w1.heap.size) := Lib.hid (by have := hb1.size; simp at this; omega); have HR : Hid (w1.heap[w.heap.size]? = some (.cells #[.int .i64 0, .int .i64 0, .int .i64 0, .int .i64 0, .int .i64 0, .int .i64 0, .int .i64 0, .int .i64 0, .int .i64 0, .int .i64 0, .bool false] 121 (0, 0))) := Lib.hid ((hb1.block w.heap.size (by simp; omega)).trans ((Below.heap_alloc _ _ w.heap.size (by simp)).trans (heap_alloc_new w _))); have HB1 := Lib.hid ((HB0.out.alloc (by simp) _).trans (hb1.mono (by simp; omega))); clear hb1)
    | (refine wpList_store_row rfl _ _ _ rfl w.heap.size _ rfl rfl 121 _ HR.out size42i rfl (by simp [Value.oneCell']) ?_))
  have hlv := run_loadVar_row (P := Tryz.prog) (w1.setRow w.heap.size #[.int .i64 31, .int .i64 31, .int .i64 19, .int .i64 12, .int .i64 20, .int .i64 20, .int .i64 30, .int .i64 21, .int .i64 4, .int .i64 1, .bool true]) w.heap.size 121 121 #[.int .i64 31, .int .i64 31, .int .i64 19, .int .i64 12, .int .i64 20, .int .i64 20, .int .i64 30, .int .i64 21, .int .i64 4, .int .i64 1, .bool true] (0, 0) _ (setRow_heap _ _ _ _ _ _ HR.out) Tryz.underlying121 rfl size42i
  exact bodyPost_ret (v := .tuple #[.agg #[.int .i64 31, .int .i64 31, .int .i64 19, .int .i64 12, .int .i64 20, .int .i64 20, .int .i64 30, .int .i64 21, .int .i64 4, .int .i64 1, .bool true], .bool true]) (by simp [results, Tryz.results72, hlv, asAddr]) rfl ⟨rfl, below_setRow HB1.out (Nat.le_refl _) _⟩
theorem find_6 (w : World) :
    Calls Tryz.prog 72 #[.int .i64 6] w fun e w' => e = .returned (.tuple #[.agg #[.int .i64 25, .int .i64 20, .int .i64 0, .int .i64 0, .int .i64 0, .int .i64 0, .int .i64 0, .int .i64 0, .int .i64 1, .int .i64 0, .bool false], .bool true]) ∧ Below w.heap.size w w' := by
  have HB0 : Hid (Below w.heap.size w (w.alloc (.cells #[.int .i64 0, .int .i64 0, .int .i64 0, .int .i64 0, .int .i64 0, .int .i64 0, .int .i64 0, .int .i64 0, .int .i64 0, .int .i64 0, .bool false] 121))) := Lib.hid ((Below.refl _ _).alloc (Nat.le_refl _) _)
  go_enter Tryz.func72, Tryz.ntmps72
  go_wp2_with (first
    | (go_at_call 101; refine (unsigned_1 (w.heap.size + 1) 25 20 _ (World.cell?_alloc_at _ _ _ _ (by simp)) (World.cell?_alloc_at _ _ _ _ (by simp)) (by simp)).mono ?_; rintro e w1 ⟨rfl, hb1⟩; have HZ : Hid (w.heap.size < w1.heap.size) := Lib.hid (by have := hb1.size; simp at this; omega); have HR : Hid (w1.heap[w.heap.size]? = some (.cells #[.int .i64 0, .int .i64 0, .int .i64 0, .int .i64 0, .int .i64 0, .int .i64 0, .int .i64 0, .int .i64 0, .int .i64 0, .int .i64 0, .bool false] 121 (0, 0))) := Lib.hid ((hb1.block w.heap.size (by simp; omega)).trans ((Below.heap_alloc _ _ w.heap.size (by simp)).trans (heap_alloc_new w _))); have HB1 := Lib.hid ((HB0.out.alloc (by simp) _).trans (hb1.mono (by simp; omega))); clear hb1)
    | (refine wpList_store_row rfl _ _ _ rfl w.heap.size _ rfl rfl 121 _ HR.out size42i rfl (by simp [Value.oneCell']) ?_))
  have hlv := run_loadVar_row (P := Tryz.prog) (w1.setRow w.heap.size #[.int .i64 25, .int .i64 20, .int .i64 0, .int .i64 0, .int .i64 0, .int .i64 0, .int .i64 0, .int .i64 0, .int .i64 1, .int .i64 0, .bool false]) w.heap.size 121 121 #[.int .i64 25, .int .i64 20, .int .i64 0, .int .i64 0, .int .i64 0, .int .i64 0, .int .i64 0, .int .i64 0, .int .i64 1, .int .i64 0, .bool false] (0, 0) _ (setRow_heap _ _ _ _ _ _ HR.out) Tryz.underlying121 rfl size42i
  exact bodyPost_ret (v := .tuple #[.agg #[.int .i64 25, .int .i64 20, .int .i64 0, .int .i64 0, .int .i64 0, .int .i64 0, .int .i64 0, .int .i64 0, .int .i64 1, .int .i64 0, .bool false], .bool true]) (by simp [results, Tryz.results72, hlv, asAddr]) rfl ⟨rfl, below_setRow HB1.out (Nat.le_refl _) _⟩
theorem find_7 (w : World) :
    Calls Tryz.prog 72 #[.int .i64 7] w fun e w' => e = .returned (.tuple #[.agg #[.int .i64 24, .int .i64 20, .int .i64 0, .int .i64 0, .int .i64 0, .int .i64 0, .int .i64 0, .int .i64 0, .int .i64 1, .int .i64 0, .bool false], .bool true]) ∧ Below w.heap.size w w' := by
  have HB0 : Hid (Below w.heap.size w (w.alloc (.cells #[.int .i64 0, .int .i64 0, .int .i64 0, .int .i64 0, .int .i64 0, .int .i64 0, .int .i64 0, .int .i64 0, .int .i64 0, .int .i64 0, .bool false] 121))) := Lib.hid ((Below.refl _ _).alloc (Nat.le_refl _) _)
  go_enter Tryz.func72, Tryz.ntmps72
  go_wp2_with (first
    | (go_at_call 101; refine (unsigned_1 (w.heap.size + 1) 24 20 _ (World.cell?_alloc_at _ _ _ _ (by simp)) (World.cell?_alloc_at _ _ _ _ (by simp)) (by simp)).mono ?_; rintro e w1 ⟨rfl, hb1⟩; have HZ : Hid (w.heap.size < w1.heap.size) := Lib.hid (by have := hb1.size; simp at this; omega); have HR : Hid (w1.heap[w.heap.size]? = some (.cells #[.int .i64 0, .int .i64 0, .int .i64 0, .int .i64 0, .int .i64 0, .int .i64 0, .int .i64 0, .int .i64 0, .int .i64 0, .int .i64 0, .bool false] 121 (0, 0))) := Lib.hid ((hb1.block w.heap.size (by simp; omega)).trans ((Below.heap_alloc _ _ w.heap.size (by simp)).trans (heap_alloc_new w _))); have HB1 := Lib.hid ((HB0.out.alloc (by simp) _).trans (hb1.mono (by simp; omega))); clear hb1)
    | (refine wpList_store_row rfl _ _ _ rfl w.heap.size _ rfl rfl 121 _ HR.out size42i rfl (by simp [Value.oneCell']) ?_))
  have hlv := run_loadVar_row (P := Tryz.prog) (w1.setRow w.heap.size #[.int .i64 24, .int .i64 20, .int .i64 0, .int .i64 0, .int .i64 0, .int .i64 0, .int .i64 0, .int .i64 0, .int .i64 1, .int .i64 0, .bool false]) w.heap.size 121 121 #[.int .i64 24, .int .i64 20, .int .i64 0, .int .i64 0, .int .i64 0, .int .i64 0, .int .i64 0, .int .i64 0, .int .i64 1, .int .i64 0, .bool false] (0, 0) _ (setRow_heap _ _ _ _ _ _ HR.out) Tryz.underlying121 rfl size42i
  exact bodyPost_ret (v := .tuple #[.agg #[.int .i64 24, .int .i64 20, .int .i64 0, .int .i64 0, .int .i64 0, .int .i64 0, .int .i64 0, .int .i64 0, .int .i64 1, .int .i64 0, .bool false], .bool true]) (by simp [results, Tryz.results72, hlv, asAddr]) rfl ⟨rfl, below_setRow HB1.out (Nat.le_refl _) _⟩
theorem find_8 (w : World) :
    Calls Tryz.prog 72 #[.int .i64 8] w fun e w' => e = .returned (.tuple #[.agg #[.int .i64 31, .int .i64 20, .int .i64 0, .int .i64 0, .int .i64 0, .int .i64 0, .int .i64 0, .int .i64 0, .int .i64 1, .int .i64 0, .bool false], .bool true]) ∧ Below w.heap.size w w' := by
  have HB0 : Hid (Below w.heap.size w (w.alloc (.cells #[.int .i64 0, .int .i64 0, .int .i64 0, .int .i64 0, .int .i64 0, .int .i64 0, .int .i64 0, .int .i64 0, .int .i64 0, .int .i64 0, .bool false] 121))) := Lib.hid ((Below.refl _ _).alloc (Nat.le_refl _) _)
  go_enter Tryz.func72, Tryz.ntmps72
  go_wp2_with (first
    | (go_at_call 101; refine (unsigned_1 (w.heap.size + 1) 31 20 _ (World.cell?_alloc_at _ _ _ _ (by simp)) (World.cell?_alloc_at _ _ _ _ (by simp)) (by simp)).mono ?_; rintro e w1 ⟨rfl, hb1⟩; have HZ : Hid (w.heap.size < w1.heap.size) := Lib.hid (by have := hb1.size; simp at this; omega); have HR : Hid (w1.heap[w.heap.size]? = some (.cells #[.int .i64 0, .int .i64 0, .int .i64 0, .int .i64 0, .int .i64 0, .int .i64 0, .int .i64 0, .int .i64 0, .int .i64 0, .int .i64 0, .bool false] 121 (0, 0))) := Lib.hid ((hb1.block w.heap.size (by simp; omega)).trans ((Below.heap_alloc _ _ w.heap.size (by simp)).trans (heap_alloc_new w _))); have HB1 := Lib.hid ((HB0.out.alloc (by simp) _).trans (hb1.mono (by simp; omega))); clear hb1)
    | (refine wpList_store_row rfl _ _ _ rfl w.heap.size _ rfl rfl 121 _ HR.out size42i rfl (by simp [Value.oneCell']) ?_))
  have hlv := run_loadVar_row (P := Tryz.prog) (w1.setRow w.heap.size #[.int .i64 31, .int .i64 20, .int .i64 0, .int .i64 0, .int .i64 0, .int .i64 0, .int .i64 0, .int .i64 0, .int .i64 1, .int .i64 0, .bool false]) w.heap.size 121 121 #[.int .i64 31, .int .i64 20, .int .i64 0, .int .i64 0, .int .i64 0, .int .i64 0, .int .i64 0, .int .i64 0, .int .i64 1, .int .i64 0, .bool false] (0, 0) _ (setRow_heap _ _ _ _ _ _ HR.out) Tryz.underlying121 rfl size42i
  exact bodyPost_ret (v := .tuple #[.agg #[.int .i64 31, .int .i64 20, .int .i64 0, .int .i64 0, .int .i64 0, .int .i64 0, .int .i64 0, .int .i64 0, .int .i64 1, .int .i64 0, .bool false], .bool true]) (by simp [results, Tryz.results72, hlv, asAddr]) rfl ⟨rfl, below_setRow HB1.out (Nat.le_refl _) _⟩
theorem find_9 (w : World) :
    Calls Tryz.prog 72 #[.int .i64 9] w fun e w' => e = .returned (.tuple #[.agg #[.int .i64 19, .int .i64 15, .int .i64 0, .int .i64 0, .int .i64 0, .int .i64 0, .int .i64 0, .int .i64 0, .int .i64 1, .int .i64 0, .bool false], .bool true]) ∧ Below w.heap.size w w' := by
  have HB0 : Hid (Below w.heap.size w (w.alloc (.cells #[.int .i64 0, .int .i64 0, .int .i64 0, .int .i64 0, .int .i64 0, .int .i64 0, .int .i64 0, .int .i64 0, .int .i64 0, .int .i64 0, .bool false] 121))) := Lib.hid ((Below.refl _ _).alloc (Nat.le_refl _) _)
  go_enter Tryz.func72, Tryz.ntmps72
  go_wp2_with (first
    | (go_at_call 101; refine (unsigned_1 (w.heap.size + 1) 19 15 _ (World.cell?_alloc_at _ _ _ _ (by simp)) (World.cell?_alloc_at _ _ _ _ (by simp)) (by simp)).mono ?_; rintro e w1 ⟨rfl, hb1⟩; have HZ : Hid (w.heap.size < w1.heap.size) := Lib.hid (by have := hb1.size; simp at this; omega); have HR : Hid (w1.heap[w.heap.size]? = some (.cells #[.int .i64 0, .int .i64 0, .int .i64 0, .int .i64 0, .int .i64 0, .int .i64 0, .int .i64 0, .int .i64 0, .int .i64 0, .int .i64 0, .bool false] 121 (0, 0))) := Lib.hid ((hb1.block w.heap.size (by simp; omega)).trans ((Below.heap_alloc _ _ w.heap.size (by simp)).trans (heap_alloc_new w _))); have HB1 := Lib.hid ((HB0.out.alloc (by simp) _).trans (hb1.mono (by simp; omega))); clear hb1)
    | (refine wpList_store_row rfl _ _ _ rfl w.heap.size _ rfl rfl 121 _ HR.out size42i rfl (by simp [Value.oneCell']) ?_))
  have hlv := run_loadVar_row (P := Tryz.prog) (w1.setRow w.heap.size #[.int .i64 19, .int .i64 15, .int .i64 0, .int .i64 0, .int .i64 0, .int .i64 0, .int .i64 0, .int .i64 0, .int .i64 1, .int .i64 0, .bool false]) w.heap.size 121 121 #[.int .i64 19, .int .i64 15, .int .i64 0, .int .i64 0, .int .i64 0, .int .i64 0, .int .i64 0, .int .i64 0, .int .i64 1, .int .i64 0, .bool false] (0, 0) _ (setRow_heap _ _ _ _ _ _ HR.out) Tryz.underlying121 rfl size42i
  exact bodyPost_ret (v := .tuple #[.agg #[.int .i64 19, .int .i64 15, .int .i64 0, .int .i64 0, .int .i64 0, .int .i64 0, .int .i64 0, .int .i64 0, .int .i64 1, .int .i64 0, .bool false], .bool true]) (by simp [results, Tryz.results72, hlv, asAddr]) rfl ⟨rfl, below_setRow HB1.out (Nat.le_refl _) _⟩
theorem find_no (f : Int) (h : ¬ (1 ≤ f ∧ f ≤ 9)) (w : World) :
    Calls Tryz.prog 72 #[.int .i64 f] w fun e w' => e = .returned (.tuple #[.agg #[.int .i64 0, .int .i64 0, .int .i64 0, .int .i64 0, .int .i64 0, .int .i64 0, .int .i64 0, .int .i64 0, .int .i64 0, .int .i64 0, .bool false], .bool false]) ∧ Below w.heap.size w w' := by
  have n1 : (f == 1) = false := by rw [beq_eq_false_iff_ne]; omega
  have n2 : (f == 2) = false := by rw [beq_eq_false_iff_ne]; omega
  have n3 : (f == 3) = false := by rw [beq_eq_false_iff_ne]; omega
  have n4 : (f == 4) = false := by rw [beq_eq_false_iff_ne]; omega
  have n5 : (f == 5) = false := by rw [beq_eq_false_iff_ne]; omega
  have n6 : (f == 6) = false := by rw [beq_eq_false_iff_ne]; omega
  have n7 : (f == 7) = false := by rw [beq_eq_false_iff_ne]; omega
  have n8 : (f == 8) = false := by rw [beq_eq_false_iff_ne]; omega
  have n9 : (f == 9) = false := by rw [beq_eq_false_iff_ne]; omega
  clear h
  go_enter Tryz.func72, Tryz.ntmps72
  go_wp2
  exact bodyPost_ret (v := .tuple #[.agg #[.int .i64 0, .int .i64 0, .int .i64 0, .int .i64 0, .int .i64 0, .int .i64 0, .int .i64 0, .int .i64 0, .int .i64 0, .int .i64 0, .bool false], .bool false]) (by simp [results, Tryz.results72, go_sem]) rfl ⟨rfl, (Below.refl _ _).alloc (Nat.le_refl _) _⟩
def isForm (f : Int) : Prop := 1 ≤ f ∧ f ≤ 9
theorem find_any (k : Nat) (hk : 1 ≤ k ∧ k ≤ 9) (w : World) :
    Calls Tryz.prog 72 #[.int .i64 k] w fun e w' => e = .returned (.tuple #[(formL k).val, .bool true]) ∧ Below w.heap.size w w' := by
  match k, hk with
  | 1, _ => exact find_1 w
  | 2, _ => exact find_2 w
  | 3, _ => exact find_3 w
  | 4, _ => exact find_4 w
  | 5, _ => exact find_5 w
  | 6, _ => exact find_6 w
  | 7, _ => exact find_7 w
  | 8, _ => exact find_8 w
  | 9, _ => exact find_9 w
  | k + 10, hk => omega
end Go.Proofs.YtakdhdaoklcidaaGreatDoor

namespace Go.Proofs.YtakdhdaoklcidaaGreatDoor
open Go.RowKit
set_option linter.unusedVariables false
set_option maxRecDepth 100000
theorem bcell {W w1 : World} (hb : Below W.heap.size W w1) : (∀ b o, b < W.heap.size → w1.cell? ⟨b, o, none⟩ = W.cell? ⟨b, o, none⟩) ∧ (∀ b o, b < W.heap.size → w1.frozen? ⟨b, o, none⟩ = W.frozen? ⟨b, o, none⟩) :=
  ⟨fun b o h => hb.cell (p := ⟨b, o, none⟩) h, fun b o h => hb.frozen (p := ⟨b, o, none⟩) h⟩
theorem find_lit (k : Nat) (hk : 1 ≤ k ∧ k ≤ 9) (w : World) :
    Calls Tryz.prog 72 #[.int .i64 k] w fun e w' => e = .returned (.tuple #[.agg #[.int .i64 ((formL k).h 0), .int .i64 ((formL k).l 0), .int .i64 ((formL k).h 1), .int .i64 ((formL k).l 1), .int .i64 ((formL k).h 2), .int .i64 ((formL k).l 2), .int .i64 ((formL k).h 3), .int .i64 ((formL k).l 3), .int .i64 ((formL k).ps.length), .int .i64 ((formL k).nt), .bool (formL k).sg], .bool true]) ∧ Below w.heap.size w w' := find_any k hk w
set_option maxRecDepth 100000 in
theorem progNumber (k : Nat) (hk : 1 ≤ k ∧ k ≤ 9) (x : Int) (w : World) :
    Calls Tryz.prog 90 #[.int .i64 k, .int .u32 x] w fun e w' => e = .returned (.tuple #[.int .i64 ((formL k).number x), .bool true]) ∧ Below w.heap.size w w' := by
  have HL := Lib.hid (formL_ok k hk)
  have HK := Lib.hid hk
  clear hk
  go_enter Tryz.func90, Tryz.ntmps90
  go_wp2_with (first
    | (go_at_call 72; refine (find_lit k HK.out _).mono ?_; rintro e w1 ⟨rfl, hb1⟩)
    | (go_at_call 102; refine (number_any (formL k) HL.out x _).mono ?_; rintro e w2 ⟨rfl, hb2⟩))
  go_ret2
  exact ⟨rfl, hb1.trans ((((Below.refl w1.heap.size w1).alloc (Nat.le_refl _) _).trans (hb2.mono (by simp))).mono hb1.size)⟩
theorem progNumber_no (f : Int) (hf : ¬ (1 ≤ f ∧ f ≤ 9)) (x : Int) (w : World) :
    Calls Tryz.prog 90 #[.int .i64 f, .int .u32 x] w fun e w' => e = .returned (.tuple #[.int .i64 0, .bool false]) ∧ Below w.heap.size w w' := by
  have HK := Lib.hid hf
  clear hf
  go_enter Tryz.func90, Tryz.ntmps90
  go_wp2_with (go_at_call 72; refine (find_no f HK.out _).mono ?_; rintro e w1 ⟨rfl, hb1⟩)
  go_ret2
  exact ⟨rfl, (hb1.alloc hb1.size _)⟩
set_option maxRecDepth 100000 in
theorem progFits (k : Nat) (hk : 1 ≤ k ∧ k ≤ 9) (n : Int) (w : World) :
    Calls Tryz.prog 39 #[.int .i64 k, .int .i64 n] w fun e w' => e = .returned (.bool ((formL k).number ((formL k).word n) == n)) ∧ Below w.heap.size w w' := by
  have HL := Lib.hid (formL_ok k hk)
  have HK := Lib.hid hk
  clear hk
  go_enter Tryz.func39, Tryz.ntmps39
  go_wp2_with (first
    | (go_at_call 72; refine (find_lit k HK.out _).mono ?_; rintro e w1 ⟨rfl, hb1⟩)
    | (go_at_call 73; refine (fits_any (formL k) HL.out n _).mono ?_; rintro e w2 ⟨rfl, hb2⟩))
  go_ret
  exact ⟨rfl, hb1.trans ((((Below.refl w1.heap.size w1).alloc (Nat.le_refl _) _).trans (hb2.mono (by simp))).mono hb1.size)⟩
theorem fits_is (k : Nat) (hk : 1 ≤ k ∧ k ≤ 9) (n : Int) (q : Bool) (hq : ((formL k).number ((formL k).word n) == n) = q) (w : World) :
    Calls Tryz.prog 73 #[(formL k).val, .int .i64 n] w fun e w' => e = .returned (.bool q) ∧ Below w.heap.size w w' :=
  (fits_any (formL k) (formL_ok k hk) n w).mono fun e w' ⟨he, hw⟩ => ⟨by rw [he, hq], hw⟩
set_option maxRecDepth 100000 in
theorem progPut_yes (k : Nat) (hk : 1 ≤ k ∧ k ≤ 9) (n : Int) (hq : ((formL k).number ((formL k).word n) == n) = true) (w : World) :
    Calls Tryz.prog 87 #[.int .i64 k, .int .i64 n] w fun e w' => e = .returned (.tuple #[.int .u32 ((formL k).word n), .bool true]) ∧ Below w.heap.size w w' := by
  have HL := Lib.hid (formL_ok k hk)
  have HK := Lib.hid hk
  have HF := Lib.hid (fits_is k hk n true hq)
  clear hk hq
  go_enter Tryz.func87, Tryz.ntmps87
  go_wp2_with (first
    | (go_at_call 72; refine (find_lit k HK.out _).mono ?_; rintro e w1 ⟨rfl, hb1⟩)
    | (go_at_call 73; refine (HF.out _).mono ?_; rintro e w2 ⟨rfl, hb2⟩; have HC : Hid (Below w.heap.size w w2) := Lib.hid (hb1.trans ((((Below.refl w1.heap.size w1).alloc (Nat.le_refl _) _).trans (hb2.mono (by simp))).mono hb1.size)); have hcz : w1.heap.size < w2.heap.size := (by have := hb2.size; simp at this; omega); obtain ⟨hc, hf⟩ := bcell hb2)
    | (go_at_call 103; refine (word_any (formL k) HL.out n _).mono ?_; rintro e w3 ⟨rfl, hb3⟩))
  go_ret2
  exact ⟨rfl, HC.out.trans (hb3.mono HC.out.size)⟩
theorem progPut_not (k : Nat) (hk : 1 ≤ k ∧ k ≤ 9) (n : Int) (hq : ((formL k).number ((formL k).word n) == n) = false) (w : World) :
    Calls Tryz.prog 87 #[.int .i64 k, .int .i64 n] w fun e w' => e = .returned (.tuple #[.int .u32 0, .bool false]) ∧ Below w.heap.size w w' := by
  have HK := Lib.hid hk
  have HF := Lib.hid (fits_is k hk n false hq)
  clear hk hq
  go_enter Tryz.func87, Tryz.ntmps87
  go_wp2_with (first
    | (go_at_call 72; refine (find_lit k HK.out _).mono ?_; rintro e w1 ⟨rfl, hb1⟩)
    | (go_at_call 73; refine (HF.out _).mono ?_; rintro e w2 ⟨rfl, hb2⟩))
  go_ret2
  exact ⟨rfl, hb1.trans ((((Below.refl w1.heap.size w1).alloc (Nat.le_refl _) _).trans (hb2.mono (by simp))).mono hb1.size)⟩
theorem progPut_no (f : Int) (hf : ¬ (1 ≤ f ∧ f ≤ 9)) (n : Int) (w : World) :
    Calls Tryz.prog 87 #[.int .i64 f, .int .i64 n] w fun e w' => e = .returned (.tuple #[.int .u32 0, .bool false]) ∧ Below w.heap.size w w' := by
  have HK := Lib.hid hf
  clear hf
  go_enter Tryz.func87, Tryz.ntmps87
  go_wp2_with (go_at_call 72; refine (find_no f HK.out _).mono ?_; rintro e w1 ⟨rfl, hb1⟩)
  go_ret2
  exact ⟨rfl, (hb1.alloc hb1.size _)⟩
end Go.Proofs.YtakdhdaoklcidaaGreatDoor

namespace Go.Proofs.YtakdhdaoklcidaaGreatDoor
open Go.RowKit
set_option linter.unusedVariables false
set_option maxRecDepth 100000
def ReadsL (k : IntKind) (B : Nat) (w : World) (v : Value) (xs : List Int) : Prop :=
  ∃ a c, v = .slice a xs.length c ∧ xs.length ≤ maxLen ∧ (xs = [] ∨ ∃ b off, a = some ⟨b, off, none⟩ ∧ b < B ∧ ∀ i, i < xs.length → w.cell? ⟨b, off + i, none⟩ = some (.int k (xs.getD i 0)))
theorem ReadsL.below {k : IntKind} {B B' : Nat} {w w' : World} {v : Value} {xs : List Int} (h : ReadsL k B w v xs) (hb : Below B' w w') (hB : B ≤ B') : ReadsL k B w' v xs := by
  obtain ⟨a, c, hv, hm, h⟩ := h
  refine ⟨a, c, hv, hm, ?_⟩
  rcases h with h | ⟨b, off, ha, hlt, hc⟩
  · exact .inl h
  · exact .inr ⟨b, off, ha, hlt, fun i hi => (hb.cell (p := ⟨b, off + i, none⟩) (Nat.lt_of_lt_of_le hlt hB)).trans (hc i hi)⟩
theorem ReadsL.mono {k : IntKind} {B B' : Nat} {w : World} {v : Value} {xs : List Int} (h : ReadsL k B w v xs) (hB : B ≤ B') : ReadsL k B' w v xs := by
  obtain ⟨a, c, hv, hm, h⟩ := h
  refine ⟨a, c, hv, hm, ?_⟩
  rcases h with h | ⟨b, off, ha, hlt, hc⟩
  · exact .inl h
  · exact .inr ⟨b, off, ha, Nat.lt_of_lt_of_le hlt hB, hc⟩
theorem ReadsL.own {k : IntKind} {base : Nat} {e : TypeId} {w : World} {v : Value} {xs : List Int} (h : w.ownsRow base e 1 v xs.length (xs.map (Value.int k))) : ReadsL k w.heap.size w v xs := by
  rcases h.2 with ⟨hv, h0⟩ | ⟨g, cap, cur, hv, _, hg, hn, hc, _, _⟩
  · have : xs = [] := List.eq_nil_of_length_eq_zero h0
    subst this
    exact ⟨none, 0, hv, Nat.zero_le _, .inl rfl⟩
  · subst hv
    refine ⟨_, cap, rfl, by omega, .inr ⟨g, 0, rfl, (Array.getElem?_eq_some_iff.1 hg).1, fun i hi => ?_⟩⟩
    have := h.cells (g := g) rfl i (.int k (xs.getD i 0)) (by simp [List.getD, hi])
    rwa [add_none] at this
def IsRow (k : IntKind) (w : World) (a : Option Addr) (len cap : Nat) (zs : List Int) : Prop :=
  (a = none ∧ len = 0 ∧ cap = 0 ∧ zs = []) ∨
  ∃ x, a = some x ∧ len ≤ cap ∧ cap ≤ maxLen ∧ zs.length = cap ∧ (∀ i, i < zs.length → w.cell? (x.add i) = some (.int k (zs.getD i 0))) ∧ ∀ n ∈ zs, (Lit.int k n).wf = true
theorem wp_append_run {P : Program} {o : Oper} {a : Act} {w : World} {K : Act → World → Prop} {Q : Exit → Act → World → Prop} (s x : Operand) (t : TypeId)
    (ho : o.op = .call { callee := .builtin .append, args := #[s, x], argTypes := #[t, t] }) (v v2 v' : Value) (w' : World) (hs : a.eval s = v) (hx : a.eval x = v2)
    (hr : (Builtin.append_ #[t, t] o.type #[v, v2]).run P w = .ok v' w') (h : K (a.put o.dst v') w') : o.wp P a w K Q := by
  unfold Oper.wp execOp
  simp only [ho, resolve, invoke, builtin, Sem.run_bind, Sem.run_pure, Result.andThen_ok, List.map_toArray, List.map_cons, List.map_nil, hs, hx, hr]
  exact h
theorem wpList_append_run {P : Program} {ops : Array Oper} {rest : List Oper} {o : Oper} {a : Act} {w : World} {Q : Exit → Act → World → Prop} (hgd : o.guard = none) (s x : Operand) (t : TypeId)
    (ho : o.op = .call { callee := .builtin .append, args := #[s, x], argTypes := #[t, t] }) (v v2 v' : Value) (w' : World) (hs : a.eval s = v) (hx : a.eval x = v2)
    (hr : (Builtin.append_ #[t, t] o.type #[v, v2]).run P w = .ok v' w') (h : wpList P ops Q rest (a.put o.dst v') w') : wpList P ops Q (o :: rest) a w :=
  wpList_plain hgd fun _ hK => wp_append_run s x t ho v v2 v' w' hs hx hr (hK _ _ h)
end Go.Proofs.YtakdhdaoklcidaaGreatDoor

namespace Go.Proofs.YtakdhdaoklcidaaGreatDoor
open Go.RowKit
set_option linter.unusedVariables false
set_option maxRecDepth 100000
theorem info_int : (Tryz.prog.info? 3).map (fun i => (i.zero, i.size, i.bytes)) = some (some (.int .i64 0), 1, 8) := by kernel_rfl
theorem places_3 (w : World) :
    Calls Tryz.prog 78 #[.int .i64 3] w fun e w' => ∃ v, e = .returned v ∧ ReadsL .i64 w'.heap.size w' v (formP 3) ∧ Below w.heap.size w w' := by
  obtain ⟨i0, hi, hz0, hz1, hz2⟩ := info_parts info_int
  go_enter Tryz.func78, Tryz.ntmps78
  go_wp2_with (at_builtin; refine wpList_append_own _ rfl _ _ 135 rfl w.heap.size 3 i0 (.int .i64 0) 1 8 Tryz.underlying135 hi hz0 hz1 hz2 rfl (by decide) (.slice none 0 0) 0 [] rfl (World.ownsRow_nil _ _ _ _) ⟨w.heap.size, 0, none⟩ 13 13 [.int .i64 31, .int .i64 7, .int .i64 30, .int .i64 29, .int .i64 28, .int .i64 27, .int .i64 26, .int .i64 25, .int .i64 11, .int .i64 10, .int .i64 9, .int .i64 8, .int .i64 (-1)] rfl rfl ?c1 ?c2 ?c3 ?c4 ?c5 ?_)
  case c1 =>
    intro j u hj
    match j, hj with
    | 0, hj => simp at hj; subst hj; simp [Addr.add]
    | 1, hj => simp at hj; subst hj; simp [Addr.add]
    | 2, hj => simp at hj; subst hj; simp [Addr.add]
    | 3, hj => simp at hj; subst hj; simp [Addr.add]
    | 4, hj => simp at hj; subst hj; simp [Addr.add]
    | 5, hj => simp at hj; subst hj; simp [Addr.add]
    | 6, hj => simp at hj; subst hj; simp [Addr.add]
    | 7, hj => simp at hj; subst hj; simp [Addr.add]
    | 8, hj => simp at hj; subst hj; simp [Addr.add]
    | 9, hj => simp at hj; subst hj; simp [Addr.add]
    | 10, hj => simp at hj; subst hj; simp [Addr.add]
    | 11, hj => simp at hj; subst hj; simp [Addr.add]
    | 12, hj => simp at hj; subst hj; simp [Addr.add]
    | j + 13, hj => simp at hj
  case c2 => intro u hu; simp at hu; rcases hu with rfl | rfl | rfl | rfl | rfl | rfl | rfl | rfl | rfl | rfl | rfl | rfl | rfl <;> rfl
  case c3 => unfold maxLen; omega
  case c4 => omega
  case c5 => simp
  intro v' w2 hown' hgrow _
  have R : w2.ownsRow w.heap.size 3 1 v' ([31, 7, 30, 29, 28, 27, 26, 25, 11, 10, 9, 8, -1] : List Int).length (([31, 7, 30, 29, 28, 27, 26, 25, 11, 10, 9, 8, -1] : List Int).map (Value.int .i64)) := by simpa using hown'
  have R2 : Below w.heap.size w w2 := ((Below.refl _ _).alloc (Nat.le_refl _) _).grown hgrow (by simp) (fun j hj => by cases hj)
  clear hown' hgrow
  go_wp2
  go_ret
  exact ⟨_, rfl, ReadsL.own R, R2⟩
theorem places_5 (w : World) :
    Calls Tryz.prog 78 #[.int .i64 5] w fun e w' => ∃ v, e = .returned v ∧ ReadsL .i64 w'.heap.size w' v (formP 5) ∧ Below w.heap.size w w' := by
  obtain ⟨i0, hi, hz0, hz1, hz2⟩ := info_parts info_int
  go_enter Tryz.func78, Tryz.ntmps78
  go_wp2_with (at_builtin; refine wpList_append_own _ rfl _ _ 135 rfl w.heap.size 3 i0 (.int .i64 0) 1 8 Tryz.underlying135 hi hz0 hz1 hz2 rfl (by decide) (.slice none 0 0) 0 [] rfl (World.ownsRow_nil _ _ _ _) ⟨w.heap.size, 0, none⟩ 21 21 [.int .i64 31, .int .i64 19, .int .i64 18, .int .i64 17, .int .i64 16, .int .i64 15, .int .i64 14, .int .i64 13, .int .i64 12, .int .i64 20, .int .i64 30, .int .i64 29, .int .i64 28, .int .i64 27, .int .i64 26, .int .i64 25, .int .i64 24, .int .i64 23, .int .i64 22, .int .i64 21, .int .i64 (-1)] rfl rfl ?c1 ?c2 ?c3 ?c4 ?c5 ?_)
  case c1 =>
    intro j u hj
    match j, hj with
    | 0, hj => simp at hj; subst hj; simp [Addr.add]
    | 1, hj => simp at hj; subst hj; simp [Addr.add]
    | 2, hj => simp at hj; subst hj; simp [Addr.add]
    | 3, hj => simp at hj; subst hj; simp [Addr.add]
    | 4, hj => simp at hj; subst hj; simp [Addr.add]
    | 5, hj => simp at hj; subst hj; simp [Addr.add]
    | 6, hj => simp at hj; subst hj; simp [Addr.add]
    | 7, hj => simp at hj; subst hj; simp [Addr.add]
    | 8, hj => simp at hj; subst hj; simp [Addr.add]
    | 9, hj => simp at hj; subst hj; simp [Addr.add]
    | 10, hj => simp at hj; subst hj; simp [Addr.add]
    | 11, hj => simp at hj; subst hj; simp [Addr.add]
    | 12, hj => simp at hj; subst hj; simp [Addr.add]
    | 13, hj => simp at hj; subst hj; simp [Addr.add]
    | 14, hj => simp at hj; subst hj; simp [Addr.add]
    | 15, hj => simp at hj; subst hj; simp [Addr.add]
    | 16, hj => simp at hj; subst hj; simp [Addr.add]
    | 17, hj => simp at hj; subst hj; simp [Addr.add]
    | 18, hj => simp at hj; subst hj; simp [Addr.add]
    | 19, hj => simp at hj; subst hj; simp [Addr.add]
    | 20, hj => simp at hj; subst hj; simp [Addr.add]
    | j + 21, hj => simp at hj
  case c2 => intro u hu; simp at hu; rcases hu with rfl | rfl | rfl | rfl | rfl | rfl | rfl | rfl | rfl | rfl | rfl | rfl | rfl | rfl | rfl | rfl | rfl | rfl | rfl | rfl | rfl <;> rfl
  case c3 => unfold maxLen; omega
  case c4 => omega
  case c5 => simp
  intro v' w2 hown' hgrow _
  have R : w2.ownsRow w.heap.size 3 1 v' ([31, 19, 18, 17, 16, 15, 14, 13, 12, 20, 30, 29, 28, 27, 26, 25, 24, 23, 22, 21, -1] : List Int).length (([31, 19, 18, 17, 16, 15, 14, 13, 12, 20, 30, 29, 28, 27, 26, 25, 24, 23, 22, 21, -1] : List Int).map (Value.int .i64)) := by simpa using hown'
  have R2 : Below w.heap.size w w2 := ((Below.refl _ _).alloc (Nat.le_refl _) _).grown hgrow (by simp) (fun j hj => by cases hj)
  clear hown' hgrow
  go_wp2
  go_ret
  exact ⟨_, rfl, ReadsL.own R, R2⟩
theorem places_6 (w : World) :
    Calls Tryz.prog 78 #[.int .i64 6] w fun e w' => ∃ v, e = .returned v ∧ ReadsL .i64 w'.heap.size w' v (formP 6) ∧ Below w.heap.size w w' := by
  obtain ⟨i0, hi, hz0, hz1, hz2⟩ := info_parts info_int
  go_enter Tryz.func78, Tryz.ntmps78
  go_wp2_with (at_builtin; refine wpList_append_own _ rfl _ _ 135 rfl w.heap.size 3 i0 (.int .i64 0) 1 8 Tryz.underlying135 hi hz0 hz1 hz2 rfl (by decide) (.slice none 0 0) 0 [] rfl (World.ownsRow_nil _ _ _ _) ⟨w.heap.size, 0, none⟩ 6 6 [.int .i64 25, .int .i64 24, .int .i64 23, .int .i64 22, .int .i64 21, .int .i64 20] rfl rfl ?c1 ?c2 ?c3 ?c4 ?c5 ?_)
  case c1 =>
    intro j u hj
    match j, hj with
    | 0, hj => simp at hj; subst hj; simp [Addr.add]
    | 1, hj => simp at hj; subst hj; simp [Addr.add]
    | 2, hj => simp at hj; subst hj; simp [Addr.add]
    | 3, hj => simp at hj; subst hj; simp [Addr.add]
    | 4, hj => simp at hj; subst hj; simp [Addr.add]
    | 5, hj => simp at hj; subst hj; simp [Addr.add]
    | j + 6, hj => simp at hj
  case c2 => intro u hu; simp at hu; rcases hu with rfl | rfl | rfl | rfl | rfl | rfl <;> rfl
  case c3 => unfold maxLen; omega
  case c4 => omega
  case c5 => simp
  intro v' w2 hown' hgrow _
  have R : w2.ownsRow w.heap.size 3 1 v' ([25, 24, 23, 22, 21, 20] : List Int).length (([25, 24, 23, 22, 21, 20] : List Int).map (Value.int .i64)) := by simpa using hown'
  have R2 : Below w.heap.size w w2 := ((Below.refl _ _).alloc (Nat.le_refl _) _).grown hgrow (by simp) (fun j hj => by cases hj)
  clear hown' hgrow
  go_wp2
  go_ret
  exact ⟨_, rfl, ReadsL.own R, R2⟩
theorem places_7 (w : World) :
    Calls Tryz.prog 78 #[.int .i64 7] w fun e w' => ∃ v, e = .returned v ∧ ReadsL .i64 w'.heap.size w' v (formP 7) ∧ Below w.heap.size w w' := by
  obtain ⟨i0, hi, hz0, hz1, hz2⟩ := info_parts info_int
  go_enter Tryz.func78, Tryz.ntmps78
  go_wp2_with (at_builtin; refine wpList_append_own _ rfl _ _ 135 rfl w.heap.size 3 i0 (.int .i64 0) 1 8 Tryz.underlying135 hi hz0 hz1 hz2 rfl (by decide) (.slice none 0 0) 0 [] rfl (World.ownsRow_nil _ _ _ _) ⟨w.heap.size, 0, none⟩ 5 5 [.int .i64 24, .int .i64 23, .int .i64 22, .int .i64 21, .int .i64 20] rfl rfl ?c1 ?c2 ?c3 ?c4 ?c5 ?_)
  case c1 =>
    intro j u hj
    match j, hj with
    | 0, hj => simp at hj; subst hj; simp [Addr.add]
    | 1, hj => simp at hj; subst hj; simp [Addr.add]
    | 2, hj => simp at hj; subst hj; simp [Addr.add]
    | 3, hj => simp at hj; subst hj; simp [Addr.add]
    | 4, hj => simp at hj; subst hj; simp [Addr.add]
    | j + 5, hj => simp at hj
  case c2 => intro u hu; simp at hu; rcases hu with rfl | rfl | rfl | rfl | rfl <;> rfl
  case c3 => unfold maxLen; omega
  case c4 => omega
  case c5 => simp
  intro v' w2 hown' hgrow _
  have R : w2.ownsRow w.heap.size 3 1 v' ([24, 23, 22, 21, 20] : List Int).length (([24, 23, 22, 21, 20] : List Int).map (Value.int .i64)) := by simpa using hown'
  have R2 : Below w.heap.size w w2 := ((Below.refl _ _).alloc (Nat.le_refl _) _).grown hgrow (by simp) (fun j hj => by cases hj)
  clear hown' hgrow
  go_wp2
  go_ret
  exact ⟨_, rfl, ReadsL.own R, R2⟩
theorem places_9 (w : World) :
    Calls Tryz.prog 78 #[.int .i64 9] w fun e w' => ∃ v, e = .returned v ∧ ReadsL .i64 w'.heap.size w' v (formP 9) ∧ Below w.heap.size w w' := by
  obtain ⟨i0, hi, hz0, hz1, hz2⟩ := info_parts info_int
  go_enter Tryz.func78, Tryz.ntmps78
  go_wp2_with (at_builtin; refine wpList_append_own _ rfl _ _ 135 rfl w.heap.size 3 i0 (.int .i64 0) 1 8 Tryz.underlying135 hi hz0 hz1 hz2 rfl (by decide) (.slice none 0 0) 0 [] rfl (World.ownsRow_nil _ _ _ _) ⟨w.heap.size, 0, none⟩ 5 5 [.int .i64 19, .int .i64 18, .int .i64 17, .int .i64 16, .int .i64 15] rfl rfl ?c1 ?c2 ?c3 ?c4 ?c5 ?_)
  case c1 =>
    intro j u hj
    match j, hj with
    | 0, hj => simp at hj; subst hj; simp [Addr.add]
    | 1, hj => simp at hj; subst hj; simp [Addr.add]
    | 2, hj => simp at hj; subst hj; simp [Addr.add]
    | 3, hj => simp at hj; subst hj; simp [Addr.add]
    | 4, hj => simp at hj; subst hj; simp [Addr.add]
    | j + 5, hj => simp at hj
  case c2 => intro u hu; simp at hu; rcases hu with rfl | rfl | rfl | rfl | rfl <;> rfl
  case c3 => unfold maxLen; omega
  case c4 => omega
  case c5 => simp
  intro v' w2 hown' hgrow _
  have R : w2.ownsRow w.heap.size 3 1 v' ([19, 18, 17, 16, 15] : List Int).length (([19, 18, 17, 16, 15] : List Int).map (Value.int .i64)) := by simpa using hown'
  have R2 : Below w.heap.size w w2 := ((Below.refl _ _).alloc (Nat.le_refl _) _).grown hgrow (by simp) (fun j hj => by cases hj)
  clear hown' hgrow
  go_wp2
  go_ret
  exact ⟨_, rfl, ReadsL.own R, R2⟩
theorem places_1 (w : World) :
    Calls Tryz.prog 78 #[.int .i64 1] w fun e w' => ∃ v, e = .returned v ∧ ReadsL .i64 w'.heap.size w' v (formP 1) ∧ Below w.heap.size w w' := by
  obtain ⟨i0, hi, hz0, hz1, hz2⟩ := info_parts info_int
  go_enter Tryz.func78, Tryz.ntmps78
  go_wp2
  go_loopw [3, 4] (fun v i wr => ∃ m : Nat, m ≤ 12 ∧ i = .int .i64 (31 - (m : Int)) ∧ wr.ownsRow w.heap.size 3 1 v (down 31 m : List Int).length ((down 31 m : List Int).map (Value.int .i64)) ∧ Below w.heap.size w wr) (fun _ i _ => (intOf i + 1).toNat)
  case atStart => exact ⟨0, Nat.zero_le _, rfl, World.ownsRow_nil _ _ _ _, Below.refl _ _⟩
  case round =>
    obtain ⟨m, hm, rfl, hown, hnx⟩ := hrel
    have hl : (down 31 m : List Int).length = 0 + m := by simp [down_len, List.length_replicate]
    by_cases hlt : m < 12
    · go_wp2_with (at_builtin; refine wpList_append_own _ rfl _ _ 135 rfl w.heap.size 3 i0 (.int .i64 0) 1 8 Tryz.underlying135 hi hz0 hz1 hz2 rfl (by decide) _ _ _ rfl (hown.alloc _) ⟨wr.heap.size, 0, none⟩ 1 1 [.int .i64 (31 - (m : Int))] rfl rfl ?c1 ?c2 ?c3 ?c4 ?c5 ?_)
      case c1 =>
        intro j u hj
        match j, hj with
        | 0, hj => simp at hj; subst hj; simp [Addr.add]
      case c2 => intro u hu; simp at hu; subst hu; rfl
      case c3 => unfold maxLen; omega
      case c4 => omega
      case c5 => have := hnx.size; simp; omega
      intro v' w2 hown' hgrow _
      have R : w2.ownsRow w.heap.size 3 1 v' (down 31 (m + 1) : List Int).length ((down 31 (m + 1) : List Int).map (Value.int .i64)) := by
        rw [down_succ 31 m]; simpa [List.map_append, down_len, List.length_replicate, Nat.add_assoc, List.append_assoc] using hown'
      have R2 : Below w.heap.size w w2 := (hnx.alloc hnx.size _).grown hgrow (by have := hnx.size; simp; omega) (fun j hj => by have := (hown.lt j hj).1; omega)
      clear hown' hgrow hown hnx hl
      go_wp2
      go_roundw
      case rel => exact ⟨m + 1, by omega, by congr 1; omega, R, R2⟩
      case measure => simp [intOf]; omega
    · obtain rfl : m = 12 := by omega
      clear hl
      go_wp2
      go_ret
      exact ⟨_, rfl, ReadsL.own hown, hnx⟩
theorem places_8 (w : World) :
    Calls Tryz.prog 78 #[.int .i64 8] w fun e w' => ∃ v, e = .returned v ∧ ReadsL .i64 w'.heap.size w' v (formP 8) ∧ Below w.heap.size w w' := by
  obtain ⟨i0, hi, hz0, hz1, hz2⟩ := info_parts info_int
  go_enter Tryz.func78, Tryz.ntmps78
  go_wp2
  go_loopw [3, 4] (fun v i wr => ∃ m : Nat, m ≤ 12 ∧ i = .int .i64 (31 - (m : Int)) ∧ wr.ownsRow w.heap.size 3 1 v (down 31 m : List Int).length ((down 31 m : List Int).map (Value.int .i64)) ∧ Below w.heap.size w wr) (fun _ i _ => (intOf i + 1).toNat)
  case atStart => exact ⟨0, Nat.zero_le _, rfl, World.ownsRow_nil _ _ _ _, Below.refl _ _⟩
  case round =>
    obtain ⟨m, hm, rfl, hown, hnx⟩ := hrel
    have hl : (down 31 m : List Int).length = 0 + m := by simp [down_len, List.length_replicate]
    by_cases hlt : m < 12
    · go_wp2_with (at_builtin; refine wpList_append_own _ rfl _ _ 135 rfl w.heap.size 3 i0 (.int .i64 0) 1 8 Tryz.underlying135 hi hz0 hz1 hz2 rfl (by decide) _ _ _ rfl (hown.alloc _) ⟨wr.heap.size, 0, none⟩ 1 1 [.int .i64 (31 - (m : Int))] rfl rfl ?c1 ?c2 ?c3 ?c4 ?c5 ?_)
      case c1 =>
        intro j u hj
        match j, hj with
        | 0, hj => simp at hj; subst hj; simp [Addr.add]
      case c2 => intro u hu; simp at hu; subst hu; rfl
      case c3 => unfold maxLen; omega
      case c4 => omega
      case c5 => have := hnx.size; simp; omega
      intro v' w2 hown' hgrow _
      have R : w2.ownsRow w.heap.size 3 1 v' (down 31 (m + 1) : List Int).length ((down 31 (m + 1) : List Int).map (Value.int .i64)) := by
        rw [down_succ 31 m]; simpa [List.map_append, down_len, List.length_replicate, Nat.add_assoc, List.append_assoc] using hown'
      have R2 : Below w.heap.size w w2 := (hnx.alloc hnx.size _).grown hgrow (by have := hnx.size; simp; omega) (fun j hj => by have := (hown.lt j hj).1; omega)
      clear hown' hgrow hown hnx hl
      go_wp2
      go_roundw
      case rel => exact ⟨m + 1, by omega, by congr 1; omega, R, R2⟩
      case measure => simp [intOf]; omega
    · obtain rfl : m = 12 := by omega
      clear hl
      go_wp2
      go_ret
      exact ⟨_, rfl, ReadsL.own hown, hnx⟩
theorem places_2 (w : World) :
    Calls Tryz.prog 78 #[.int .i64 2] w fun e w' => ∃ v, e = .returned v ∧ ReadsL .i64 w'.heap.size w' v (formP 2) ∧ Below w.heap.size w w' := by
  obtain ⟨i0, hi, hz0, hz1, hz2⟩ := info_parts info_int
  go_enter Tryz.func78, Tryz.ntmps78
  go_wp2
  go_loopw [3, 5] (fun v i wr => ∃ m : Nat, m ≤ 7 ∧ i = .int .i64 (31 - (m : Int)) ∧ wr.ownsRow w.heap.size 3 1 v (down 31 m : List Int).length ((down 31 m : List Int).map (Value.int .i64)) ∧ Below w.heap.size w wr) (fun _ i _ => (intOf i + 1).toNat)
  case atStart => exact ⟨0, Nat.zero_le _, rfl, World.ownsRow_nil _ _ _ _, Below.refl _ _⟩
  case round =>
    obtain ⟨m, hm, rfl, hown, hnx⟩ := hrel
    have hl : (down 31 m : List Int).length = 0 + m := by simp [down_len, List.length_replicate]
    by_cases hlt : m < 7
    · go_wp2_with (at_builtin; refine wpList_append_own _ rfl _ _ 135 rfl w.heap.size 3 i0 (.int .i64 0) 1 8 Tryz.underlying135 hi hz0 hz1 hz2 rfl (by decide) _ _ _ rfl (hown.alloc _) ⟨wr.heap.size, 0, none⟩ 1 1 [.int .i64 (31 - (m : Int))] rfl rfl ?c1 ?c2 ?c3 ?c4 ?c5 ?_)
      case c1 =>
        intro j u hj
        match j, hj with
        | 0, hj => simp at hj; subst hj; simp [Addr.add]
      case c2 => intro u hu; simp at hu; subst hu; rfl
      case c3 => unfold maxLen; omega
      case c4 => omega
      case c5 => have := hnx.size; simp; omega
      intro v' w2 hown' hgrow _
      have R : w2.ownsRow w.heap.size 3 1 v' (down 31 (m + 1) : List Int).length ((down 31 (m + 1) : List Int).map (Value.int .i64)) := by
        rw [down_succ 31 m]; simpa [List.map_append, down_len, List.length_replicate, Nat.add_assoc, List.append_assoc] using hown'
      have R2 : Below w.heap.size w w2 := (hnx.alloc hnx.size _).grown hgrow (by have := hnx.size; simp; omega) (fun j hj => by have := (hown.lt j hj).1; omega)
      clear hown' hgrow hown hnx hl
      go_wp2
      go_roundw
      case rel => exact ⟨m + 1, by omega, by congr 1; omega, R, R2⟩
      case measure => simp [intOf]; omega
    · obtain rfl : m = 7 := by omega
      clear hl
      obtain ⟨wo, rfl⟩ : ∃ wo : World, wo = wr := ⟨_, rfl⟩
      have HO := Lib.hid hown
      have HX := Lib.hid hnx
      clear hown hnx
      rw [show (31 : Int) - ((7 : Nat) : Int) = 24 from rfl]
      go_wp2
      go_loopw [3, 6] (fun v i wr => ∃ m : Nat, m ≤ 5 ∧ i = .int .i64 (11 - (m : Int)) ∧ wr.ownsRow w.heap.size 3 1 v (down 31 7 ++ down 11 m : List Int).length ((down 31 7 ++ down 11 m : List Int).map (Value.int .i64)) ∧ Below w.heap.size w wr) (fun _ i _ => (intOf i + 1).toNat)
      case atStart => exact ⟨0, Nat.zero_le _, rfl, HO.out, HX.out⟩
      case round =>
        obtain ⟨m, hm, rfl, hown, hnx⟩ := hrel
        have hl : (down 31 7 ++ down 11 m : List Int).length = 7 + m := by simp [down_len, List.length_replicate]
        by_cases hlt : m < 5
        · go_wp2_with (at_builtin; refine wpList_append_own _ rfl _ _ 135 rfl w.heap.size 3 i0 (.int .i64 0) 1 8 Tryz.underlying135 hi hz0 hz1 hz2 rfl (by decide) _ _ _ rfl (hown.alloc _) ⟨wr.heap.size, 0, none⟩ 1 1 [.int .i64 (11 - (m : Int))] rfl rfl ?c1 ?c2 ?c3 ?c4 ?c5 ?_)
          case c1 =>
            intro j u hj
            match j, hj with
            | 0, hj => simp at hj; subst hj; simp [Addr.add]
          case c2 => intro u hu; simp at hu; subst hu; rfl
          case c3 => unfold maxLen; omega
          case c4 => omega
          case c5 => have := hnx.size; simp; omega
          intro v' w2 hown' hgrow _
          have R : w2.ownsRow w.heap.size 3 1 v' (down 31 7 ++ down 11 (m + 1) : List Int).length ((down 31 7 ++ down 11 (m + 1) : List Int).map (Value.int .i64)) := by
            rw [down_succ 11 m]; simpa [List.map_append, down_len, List.length_replicate, Nat.add_assoc, List.append_assoc] using hown'
          have R2 : Below w.heap.size w w2 := (hnx.alloc hnx.size _).grown hgrow (by have := hnx.size; simp; omega) (fun j hj => by have := (hown.lt j hj).1; omega)
          clear hown' hgrow hown hnx hl
          go_wp2
          go_roundw
          case rel => exact ⟨m + 1, by omega, by congr 1; omega, R, R2⟩
          case measure => simp [intOf]; omega
        · obtain rfl : m = 5 := by omega
          clear hl
          go_wp2
          go_ret
          exact ⟨_, rfl, ReadsL.own hown, hnx⟩
theorem places_4 (w : World) :
    Calls Tryz.prog 78 #[.int .i64 4] w fun e w' => ∃ v, e = .returned v ∧ ReadsL .i64 w'.heap.size w' v (formP 4) ∧ Below w.heap.size w w' := by
  obtain ⟨i0, hi, hz0, hz1, hz2⟩ := info_parts info_int
  go_enter Tryz.func78, Tryz.ntmps78
  go_wp2
  go_loopw [3, 7] (fun v i wr => ∃ m : Nat, m ≤ 20 ∧ i = .int .i64 (31 - (m : Int)) ∧ wr.ownsRow w.heap.size 3 1 v (down 31 m : List Int).length ((down 31 m : List Int).map (Value.int .i64)) ∧ Below w.heap.size w wr) (fun _ i _ => (intOf i + 1).toNat)
  case atStart => exact ⟨0, Nat.zero_le _, rfl, World.ownsRow_nil _ _ _ _, Below.refl _ _⟩
  case round =>
    obtain ⟨m, hm, rfl, hown, hnx⟩ := hrel
    have hl : (down 31 m : List Int).length = 0 + m := by simp [down_len, List.length_replicate]
    by_cases hlt : m < 20
    · go_wp2_with (at_builtin; refine wpList_append_own _ rfl _ _ 135 rfl w.heap.size 3 i0 (.int .i64 0) 1 8 Tryz.underlying135 hi hz0 hz1 hz2 rfl (by decide) _ _ _ rfl (hown.alloc _) ⟨wr.heap.size, 0, none⟩ 1 1 [.int .i64 (31 - (m : Int))] rfl rfl ?c1 ?c2 ?c3 ?c4 ?c5 ?_)
      case c1 =>
        intro j u hj
        match j, hj with
        | 0, hj => simp at hj; subst hj; simp [Addr.add]
      case c2 => intro u hu; simp at hu; subst hu; rfl
      case c3 => unfold maxLen; omega
      case c4 => omega
      case c5 => have := hnx.size; simp; omega
      intro v' w2 hown' hgrow _
      have R : w2.ownsRow w.heap.size 3 1 v' (down 31 (m + 1) : List Int).length ((down 31 (m + 1) : List Int).map (Value.int .i64)) := by
        rw [down_succ 31 m]; simpa [List.map_append, down_len, List.length_replicate, Nat.add_assoc, List.append_assoc] using hown'
      have R2 : Below w.heap.size w w2 := (hnx.alloc hnx.size _).grown hgrow (by have := hnx.size; simp; omega) (fun j hj => by have := (hown.lt j hj).1; omega)
      clear hown' hgrow hown hnx hl
      go_wp2
      go_roundw
      case rel => exact ⟨m + 1, by omega, by congr 1; omega, R, R2⟩
      case measure => simp [intOf]; omega
    · obtain rfl : m = 20 := by omega
      clear hl
      obtain ⟨wo, rfl⟩ : ∃ wo : World, wo = wr := ⟨_, rfl⟩
      have HO := Lib.hid hown
      have HX := Lib.hid hnx
      clear hown hnx
      rw [show (31 : Int) - ((20 : Nat) : Int) = 11 from rfl]
      go_wp2
      go_loopw [3, 8] (fun v i wr => ∃ m : Nat, m ≤ 12 ∧ i = .int .i64 m ∧ wr.ownsRow w.heap.size 3 1 v (down 31 20 ++ List.replicate m (-1) : List Int).length ((down 31 20 ++ List.replicate m (-1) : List Int).map (Value.int .i64)) ∧ Below w.heap.size w wr) (fun _ i _ => 12 - (intOf i).toNat)
      case atStart => exact ⟨0, Nat.zero_le _, rfl, HO.out, HX.out⟩
      case round =>
        obtain ⟨m, hm, rfl, hown, hnx⟩ := hrel
        have hl : (down 31 20 ++ List.replicate m (-1) : List Int).length = 20 + m := by simp [down_len, List.length_replicate]
        by_cases hlt : m < 12
        · go_wp2_with (at_builtin; refine wpList_append_own _ rfl _ _ 135 rfl w.heap.size 3 i0 (.int .i64 0) 1 8 Tryz.underlying135 hi hz0 hz1 hz2 rfl (by decide) _ _ _ rfl (hown.alloc _) ⟨wr.heap.size, 0, none⟩ 1 1 [.int .i64 (-1)] rfl rfl ?c1 ?c2 ?c3 ?c4 ?c5 ?_)
          case c1 =>
            intro j u hj
            match j, hj with
            | 0, hj => simp at hj; subst hj; simp [Addr.add]
          case c2 => intro u hu; simp at hu; subst hu; rfl
          case c3 => unfold maxLen; omega
          case c4 => omega
          case c5 => have := hnx.size; simp; omega
          intro v' w2 hown' hgrow _
          have R : w2.ownsRow w.heap.size 3 1 v' (down 31 20 ++ List.replicate (m + 1) (-1) : List Int).length ((down 31 20 ++ List.replicate (m + 1) (-1) : List Int).map (Value.int .i64)) := by
            rw [List.replicate_succ' (n := m)]; simpa [List.map_append, down_len, List.length_replicate, Nat.add_assoc, List.append_assoc] using hown'
          have R2 : Below w.heap.size w w2 := (hnx.alloc hnx.size _).grown hgrow (by have := hnx.size; simp; omega) (fun j hj => by have := (hown.lt j hj).1; omega)
          clear hown' hgrow hown hnx hl
          go_wp2
          go_roundw
          case rel => exact ⟨m + 1, by omega, by go_num, R, R2⟩
          case measure => simp [intOf]; omega
        · obtain rfl : m = 12 := by omega
          clear hl
          go_wp2
          go_ret
          exact ⟨_, rfl, ReadsL.own hown, hnx⟩
theorem places_any (k : Nat) (hk : 1 ≤ k ∧ k ≤ 9) (w : World) :
    Calls Tryz.prog 78 #[.int .i64 k] w fun e w' => ∃ v, e = .returned v ∧ ReadsL .i64 w'.heap.size w' v (formP k) ∧ Below w.heap.size w w' := by
  match k, hk with
  | 1, _ => exact places_1 w
  | 2, _ => exact places_2 w
  | 3, _ => exact places_3 w
  | 4, _ => exact places_4 w
  | 5, _ => exact places_5 w
  | 6, _ => exact places_6 w
  | 7, _ => exact places_7 w
  | 8, _ => exact places_8 w
  | 9, _ => exact places_9 w
  | k + 10, hk => omega
end Go.Proofs.YtakdhdaoklcidaaGreatDoor

namespace Go.Proofs.YtakdhdaoklcidaaGreatDoor
open Go.RowKit
set_option linter.unusedVariables false
set_option maxRecDepth 100000
theorem signed_is (k : Nat) (b : Bool) (h : decide (1 ≤ k ∧ k ≤ 5) = b) (w : World) :
    Calls Tryz.prog 79 #[.int .i64 k] w fun e w' => e = .returned (.bool b) ∧ w = w' :=
  (signed_any k w).mono fun e w' ⟨he, hw⟩ => ⟨by rw [he, ← h]; congr 2; rw [decide_eq_decide]; omega, hw⟩
end Go.Proofs.YtakdhdaoklcidaaGreatDoor

namespace Go.Proofs.YtakdhdaoklcidaaGreatDoor
open Go.RowKit
set_option linter.unusedVariables false
set_option maxRecDepth 100000
set_option maxHeartbeats 2000000 in
set_option maxRecDepth 100000 in
theorem refFits_true (k : Nat) (hk : 1 ≤ k ∧ k ≤ 9) (l : List Int) (hP : formP k = l) (h0 : 0 < l.length) (h32 : l.length ≤ 32) (hp : ∀ i, i < l.length → l.getD i 0 < 32) (hs : decide (1 ≤ k ∧ k ≤ 5) = true) (n : Int) (w : World) :
    Calls Tryz.prog 49 #[.int .i64 k, .int .i64 n] w fun e w' => e = .returned (.bool (fitsD n true l)) ∧ Below w.heap.size w w' := by
  have HK := Lib.hid hk
  have HP := Lib.hid hP
  have HB := Lib.hid hp
  clear hk hP hp
  have hz : ((l.length : Int) == 0) = false := by rw [beq_eq_false_iff_ne]; omega
  have hne : ¬ l = [] := by intro h; rw [h] at h0; simp at h0
  have HNE := Lib.hid hne
  clear hne
  have q1 := pow_le_32 h32
  have q2 := pow_le_32 (show l.length - 1 ≤ 32 by omega)
  obtain ⟨q11, q12⟩ := q1
  obtain ⟨q21, q22⟩ := q2
  have HSG := Lib.hid (signed_is k true hs)
  clear hs
  by_cases h1 : n < -(2 : Int) ^ (l.length - 1)
  · have HE := Lib.hid (fitsD_out (n := n) (sg := true) (l := l) (by simp; omega))
    go_enter Tryz.func49, Tryz.ntmps49
    go_wp2_with (first
      | (go_at_call 78; refine (places_any k HK.out _).mono ?_; rintro e w1 ⟨v, rfl, hr, hb⟩; rw [HP.out] at hr; obtain ⟨a, c, rfl, hm, hcl⟩ := hr; obtain ⟨b, off, rfl, hbb, hc⟩ := hcl.resolve_left HNE.out; have HB1 := Lib.hid hb; have HC := Lib.hid hc; clear hb hc hcl hm)
      | (go_at_call 79; refine (HSG.out _).mono ?_; rintro e w' ⟨rfl, rfl⟩))
    go_ret
    exact ⟨ret_bool HE.out.symm, HB1.out⟩
  by_cases h2 : (2 : Int) ^ (l.length - 1) - 1 < n
  · have HE := Lib.hid (fitsD_out (n := n) (sg := true) (l := l) (by simp; omega))
    go_enter Tryz.func49, Tryz.ntmps49
    go_wp2_with (first
      | (go_at_call 78; refine (places_any k HK.out _).mono ?_; rintro e w1 ⟨v, rfl, hr, hb⟩; rw [HP.out] at hr; obtain ⟨a, c, rfl, hm, hcl⟩ := hr; obtain ⟨b, off, rfl, hbb, hc⟩ := hcl.resolve_left HNE.out; have HB1 := Lib.hid hb; have HC := Lib.hid hc; clear hb hc hcl hm)
      | (go_at_call 79; refine (HSG.out _).mono ?_; rintro e w' ⟨rfl, rfl⟩))
    go_ret
    exact ⟨ret_bool HE.out.symm, HB1.out⟩
  have HR := Lib.hid (fun h => fitsD_yes (n := n) (sg := true) (l := l) (by simp; omega) h)
  go_enter Tryz.func49, Tryz.ntmps49
  go_wp2_with (first
    | (go_at_call 78; refine (places_any k HK.out _).mono ?_; rintro e w1 ⟨v, rfl, hr, hb⟩; rw [HP.out] at hr; obtain ⟨a, c, rfl, hm, hcl⟩ := hr; obtain ⟨b, off, rfl, hbb, hc⟩ := hcl.resolve_left HNE.out; have HB1 := Lib.hid hb; have HC := Lib.hid hc; clear hb hc hcl hm)
    | (go_at_call 79; refine (HSG.out _).mono ?_; rintro e w' ⟨rfl, rfl⟩))
  clear h1 h2 q11 q12 q21 q22
  go_loop [8] (fun i => ∃ j : Nat, j ≤ l.length ∧ i = .int .i64 j ∧ ∀ m, m < j → badAt n l m = false) (fun i => l.length - (intOf i).toNat)
  case atStart => exact ⟨0, by omega, rfl, fun m h => absurd h (Nat.not_lt_zero m)⟩
  case round =>
    obtain ⟨j, hj, rfl, hall⟩ := hrel
    have HA := Lib.hid hall
    clear hall
    by_cases hlt : j < l.length
    · have hcell := HC.out j hlt
      have HV := Lib.hid (show ∀ b, badAt n l j = b → (decide (l.getD j 0 < 0) && bitN n (l.length - 1 - j) == 1) = b from fun b h => h)
      have HW : Hid (badAt n l j = (decide (l.getD j 0 < 0) && bitN n (l.length - 1 - j) == 1)) := Lib.hid rfl
      have HN := Lib.hid (bitN_and n (l.length - 1 - j))
      generalize l.getD j 0 = p at *
      by_cases hp0 : p < 0
      · rcases bitN_01 n (l.length - 1 - j) with hb0 | hb1
        · have hbt : (bits .and .i64 (n / 2 ^ (l.length - 1 - j)) 1 == 1) = false := by rw [HN.out, hb0]; rfl
          have HBAD := Lib.hid (show badAt n l j = false by rw [HW.out, hb0]; simp)
          clear hb0
          go_wp2
          go_round
          case rel => exact ⟨j + 1, by omega, by go_num, fun m hm => by
            by_cases e : m = j
            · rw [e]; exact HBAD.out
            · exact HA.out m (by omega)⟩
          case measure => simp [intOf]; omega
        · have hbt : (bits .and .i64 (n / 2 ^ (l.length - 1 - j)) 1 == 1) = true := by rw [HN.out, hb1]; rfl
          have HBAD := Lib.hid (fitsD_bad (sg := true) hlt (show badAt n l j = true by rw [HW.out, hb1]; simp [hp0]))
          clear hb1
          go_wp2
          go_ret
          exact ⟨ret_bool HBAD.out.symm, HB1.out⟩
      · have HBAD := Lib.hid (show badAt n l j = false by rw [HW.out]; simp [hp0])
        go_wp2
        go_round
        case rel => exact ⟨j + 1, by omega, by go_num, fun m hm => by
          by_cases e : m = j
          · rw [e]; exact HBAD.out
          · exact HA.out m (by omega)⟩
        case measure => simp [intOf]; omega
    · obtain rfl : j = l.length := by omega
      go_wp2
      go_ret
      exact ⟨ret_bool (HR.out HA.out).symm, HB1.out⟩
set_option maxHeartbeats 2000000 in
set_option maxRecDepth 100000 in
theorem refFits_false (k : Nat) (hk : 1 ≤ k ∧ k ≤ 9) (l : List Int) (hP : formP k = l) (h0 : 0 < l.length) (h32 : l.length ≤ 32) (hp : ∀ i, i < l.length → l.getD i 0 < 32) (hs : decide (1 ≤ k ∧ k ≤ 5) = false) (n : Int) (w : World) :
    Calls Tryz.prog 49 #[.int .i64 k, .int .i64 n] w fun e w' => e = .returned (.bool (fitsD n false l)) ∧ Below w.heap.size w w' := by
  have HK := Lib.hid hk
  have HP := Lib.hid hP
  have HB := Lib.hid hp
  clear hk hP hp
  have hz : ((l.length : Int) == 0) = false := by rw [beq_eq_false_iff_ne]; omega
  have hne : ¬ l = [] := by intro h; rw [h] at h0; simp at h0
  have HNE := Lib.hid hne
  clear hne
  have q1 := pow_le_32 h32
  have q2 := pow_le_32 (show l.length - 1 ≤ 32 by omega)
  obtain ⟨q11, q12⟩ := q1
  obtain ⟨q21, q22⟩ := q2
  have HSG := Lib.hid (signed_is k false hs)
  clear hs
  by_cases h1 : n < 0
  · have HE := Lib.hid (fitsD_out (n := n) (sg := false) (l := l) (by simp; omega))
    go_enter Tryz.func49, Tryz.ntmps49
    go_wp2_with (first
      | (go_at_call 78; refine (places_any k HK.out _).mono ?_; rintro e w1 ⟨v, rfl, hr, hb⟩; rw [HP.out] at hr; obtain ⟨a, c, rfl, hm, hcl⟩ := hr; obtain ⟨b, off, rfl, hbb, hc⟩ := hcl.resolve_left HNE.out; have HB1 := Lib.hid hb; have HC := Lib.hid hc; clear hb hc hcl hm)
      | (go_at_call 79; refine (HSG.out _).mono ?_; rintro e w' ⟨rfl, rfl⟩))
    go_ret
    exact ⟨ret_bool HE.out.symm, HB1.out⟩
  by_cases h2 : 2 ^ l.length - 1 < n
  · have HE := Lib.hid (fitsD_out (n := n) (sg := false) (l := l) (by simp; omega))
    go_enter Tryz.func49, Tryz.ntmps49
    go_wp2_with (first
      | (go_at_call 78; refine (places_any k HK.out _).mono ?_; rintro e w1 ⟨v, rfl, hr, hb⟩; rw [HP.out] at hr; obtain ⟨a, c, rfl, hm, hcl⟩ := hr; obtain ⟨b, off, rfl, hbb, hc⟩ := hcl.resolve_left HNE.out; have HB1 := Lib.hid hb; have HC := Lib.hid hc; clear hb hc hcl hm)
      | (go_at_call 79; refine (HSG.out _).mono ?_; rintro e w' ⟨rfl, rfl⟩))
    go_ret
    exact ⟨ret_bool HE.out.symm, HB1.out⟩
  have HR := Lib.hid (fun h => fitsD_yes (n := n) (sg := false) (l := l) (by simp; omega) h)
  go_enter Tryz.func49, Tryz.ntmps49
  go_wp2_with (first
    | (go_at_call 78; refine (places_any k HK.out _).mono ?_; rintro e w1 ⟨v, rfl, hr, hb⟩; rw [HP.out] at hr; obtain ⟨a, c, rfl, hm, hcl⟩ := hr; obtain ⟨b, off, rfl, hbb, hc⟩ := hcl.resolve_left HNE.out; have HB1 := Lib.hid hb; have HC := Lib.hid hc; clear hb hc hcl hm)
    | (go_at_call 79; refine (HSG.out _).mono ?_; rintro e w' ⟨rfl, rfl⟩))
  clear h1 h2 q11 q12 q21 q22
  go_loop [8] (fun i => ∃ j : Nat, j ≤ l.length ∧ i = .int .i64 j ∧ ∀ m, m < j → badAt n l m = false) (fun i => l.length - (intOf i).toNat)
  case atStart => exact ⟨0, by omega, rfl, fun m h => absurd h (Nat.not_lt_zero m)⟩
  case round =>
    obtain ⟨j, hj, rfl, hall⟩ := hrel
    have HA := Lib.hid hall
    clear hall
    by_cases hlt : j < l.length
    · have hcell := HC.out j hlt
      have HV := Lib.hid (show ∀ b, badAt n l j = b → (decide (l.getD j 0 < 0) && bitN n (l.length - 1 - j) == 1) = b from fun b h => h)
      have HW : Hid (badAt n l j = (decide (l.getD j 0 < 0) && bitN n (l.length - 1 - j) == 1)) := Lib.hid rfl
      have HN := Lib.hid (bitN_and n (l.length - 1 - j))
      generalize l.getD j 0 = p at *
      by_cases hp0 : p < 0
      · rcases bitN_01 n (l.length - 1 - j) with hb0 | hb1
        · have hbt : (bits .and .i64 (n / 2 ^ (l.length - 1 - j)) 1 == 1) = false := by rw [HN.out, hb0]; rfl
          have HBAD := Lib.hid (show badAt n l j = false by rw [HW.out, hb0]; simp)
          clear hb0
          go_wp2
          go_round
          case rel => exact ⟨j + 1, by omega, by go_num, fun m hm => by
            by_cases e : m = j
            · rw [e]; exact HBAD.out
            · exact HA.out m (by omega)⟩
          case measure => simp [intOf]; omega
        · have hbt : (bits .and .i64 (n / 2 ^ (l.length - 1 - j)) 1 == 1) = true := by rw [HN.out, hb1]; rfl
          have HBAD := Lib.hid (fitsD_bad (sg := false) hlt (show badAt n l j = true by rw [HW.out, hb1]; simp [hp0]))
          clear hb1
          go_wp2
          go_ret
          exact ⟨ret_bool HBAD.out.symm, HB1.out⟩
      · have HBAD := Lib.hid (show badAt n l j = false by rw [HW.out]; simp [hp0])
        go_wp2
        go_round
        case rel => exact ⟨j + 1, by omega, by go_num, fun m hm => by
          by_cases e : m = j
          · rw [e]; exact HBAD.out
          · exact HA.out m (by omega)⟩
        case measure => simp [intOf]; omega
    · obtain rfl : j = l.length := by omega
      go_wp2
      go_ret
      exact ⟨ret_bool (HR.out HA.out).symm, HB1.out⟩
end Go.Proofs.YtakdhdaoklcidaaGreatDoor

namespace Go.Proofs.YtakdhdaoklcidaaGreatDoor
open Go.RowKit
set_option linter.unusedVariables false
set_option maxRecDepth 100000
theorem refFits_any (k : Nat) (hk : 1 ≤ k ∧ k ≤ 9) (l : List Int) (hP : formP k = l) (h0 : 0 < l.length) (h32 : l.length ≤ 32) (hp : ∀ i, i < l.length → l.getD i 0 < 32) (n : Int) (w : World) :
    Calls Tryz.prog 49 #[.int .i64 k, .int .i64 n] w fun e w' => e = .returned (.bool (fitsD n (decide (k ≤ 5)) l)) ∧ Below w.heap.size w w' := by
  by_cases h : k ≤ 5
  · rw [decide_eq_true h]; exact refFits_true k hk l hP h0 h32 hp (by simp; omega) n w
  · rw [decide_eq_false h]; exact refFits_false k hk l hP h0 h32 hp (by simp; omega) n w
theorem refFits_is (k : Nat) (hk : 1 ≤ k ∧ k ≤ 9) (l : List Int) (hP : formP k = l) (h0 : 0 < l.length) (h32 : l.length ≤ 32) (hp : ∀ i, i < l.length → l.getD i 0 < 32) (n : Int) (q : Bool) (hq : fitsD n (decide (k ≤ 5)) l = q) (w : World) :
    Calls Tryz.prog 49 #[.int .i64 k, .int .i64 n] w fun e w' => e = .returned (.bool q) ∧ Below w.heap.size w w' :=
  (refFits_any k hk l hP h0 h32 hp n w).mono fun e w' ⟨he, hw⟩ => ⟨by rw [he, hq], hw⟩
theorem putD_one {n : Int} {l : List Int} {j : Nat} (h1 : 0 ≤ l.getD j 0) (h2 : bitN n (l.length - 1 - j) = 1) : putD n l (j + 1) = bits .or .u32 (putD n l j) (IntKind.u32.wrap (2 ^ (l.getD j 0).toNat)) := by
  rw [putD, if_pos ⟨h1, h2⟩]
theorem putD_not {n : Int} {l : List Int} {j : Nat} (h : ¬ (0 ≤ l.getD j 0 ∧ bitN n (l.length - 1 - j) = 1)) : putD n l (j + 1) = putD n l j := by
  rw [putD, if_neg h]
set_option maxHeartbeats 2000000 in
set_option maxRecDepth 100000 in
theorem refPut_yes (k : Nat) (hk : 1 ≤ k ∧ k ≤ 9) (l : List Int) (hP : formP k = l) (h0 : 0 < l.length) (h32 : l.length ≤ 32) (hp : ∀ i, i < l.length → l.getD i 0 < 32) (n : Int) (hq : fitsD n (decide (k ≤ 5)) l = true) (w : World) :
    Calls Tryz.prog 80 #[.int .i64 k, .int .i64 n] w fun e w' => e = .returned (.tuple #[.int .u32 (putD n l l.length), .bool true]) ∧ Below w.heap.size w w' := by
  have HF := Lib.hid (refFits_is k hk l hP h0 h32 hp n true hq)
  clear hq
  have HK := Lib.hid hk
  have HP := Lib.hid hP
  have HB := Lib.hid hp
  have hne : ¬ l = [] := by intro h; rw [h] at h0; simp at h0
  have HNE := Lib.hid hne
  clear hne
  clear hk hP hp
  go_enter Tryz.func80, Tryz.ntmps80
  go_wp2_with (first
    | (go_at_call 49; refine (HF.out _).mono ?_; rintro e wf ⟨rfl, hbf⟩; have HBF := Lib.hid hbf; clear hbf)
    | (go_at_call 78; refine (places_any k HK.out _).mono ?_; rintro e w1 ⟨v, rfl, hr, hb⟩; rw [HP.out] at hr; obtain ⟨a, c, rfl, hm, hcl⟩ := hr; obtain ⟨b, off, rfl, hbb, hc⟩ := hcl.resolve_left HNE.out; have HB1 := Lib.hid (HBF.out.trans (hb.mono HBF.out.size)); have HC := Lib.hid hc; clear hb hc hcl hm))
  go_loop [7, 8] (fun v i => ∃ j : Nat, j ≤ l.length ∧ i = .int .i64 j ∧ v = .int .u32 (putD n l j)) (fun _ i => l.length - (intOf i).toNat)
  case atStart => exact ⟨0, by omega, rfl, rfl⟩
  case round =>
    obtain ⟨j, hj, rfl, rfl⟩ := hrel
    by_cases hlt : j < l.length
    · have hcell := HC.out j hlt
      have h32' := HB.out j hlt
      have HN := Lib.hid (bitN_and n (l.length - 1 - j))
      have HO := Lib.hid (fun h1 h2 => putD_one (n := n) (l := l) (j := j) h1 h2)
      have HZ := Lib.hid (fun h => putD_not (n := n) (l := l) (j := j) h)
      generalize l.getD j 0 = p at *
      by_cases hp0 : 0 ≤ p
      · rcases bitN_01 n (l.length - 1 - j) with hb0 | hb1
        · have hbt : (bits .and .i64 (n / 2 ^ (l.length - 1 - j)) 1 == 1) = false := by rw [HN.out, hb0]; rfl
          have HE := Lib.hid (HZ.out (by rw [hb0]; omega))
          clear hb0
          generalize putD n l j = y at *
          go_wp2
          go_round
          case rel => exact ⟨j + 1, by omega, by go_num, by rw [HE.out]⟩
          case measure => simp [intOf]; omega
        · have hbt : (bits .and .i64 (n / 2 ^ (l.length - 1 - j)) 1 == 1) = true := by rw [HN.out, hb1]; rfl
          have HE := Lib.hid (HO.out hp0 hb1)
          clear hb1
          generalize putD n l j = y at *
          go_wp2
          go_round
          case rel => exact ⟨j + 1, by omega, by go_num, by rw [HE.out, wrap32]⟩
          case measure => simp [intOf]; omega
      · have HE := Lib.hid (HZ.out (by omega))
        generalize putD n l j = y at *
        go_wp2
        go_round
        case rel => exact ⟨j + 1, by omega, by go_num, by rw [HE.out]⟩
        case measure => simp [intOf]; omega
    · obtain rfl : j = l.length := by omega
      generalize hy : putD n l l.length = y at *
      have HY := Lib.hid hy
      clear hy
      go_wp2
      go_ret2
      exact ⟨ret_two HY.out.symm rfl, HB1.out⟩
end Go.Proofs.YtakdhdaoklcidaaGreatDoor

namespace Go.Proofs.YtakdhdaoklcidaaGreatDoor
open Go.RowKit
set_option linter.unusedVariables false
set_option maxRecDepth 100000
theorem form_cond (k : Nat) (hk : 1 ≤ k ∧ k ≤ 9) : 0 < (formP k).length ∧ (formP k).length ≤ 32 ∧ ∀ i, i < (formP k).length → (formP k).getD i 0 < 32 := by
  have h := formOk k hk
  refine ⟨h.len.1, h.len.2.1, fun i hi => ?_⟩
  by_cases c : 0 ≤ (formP k).getD i 0
  · exact (h.own i hi c).1
  · omega
theorem refPut_form_yes (k : Nat) (hk : 1 ≤ k ∧ k ≤ 9) (n : Int) (hq : ((formL k).number ((formL k).word n) == n) = true) (w : World) :
    Calls Tryz.prog 80 #[.int .i64 k, .int .i64 n] w fun e w' => e = .returned (.tuple #[.int .u32 ((formL k).word n), .bool true]) ∧ Below w.heap.size w w' := by
  have c := form_cond k hk
  have h := formOk k hk
  rw [h.fits (form_len k hk), form_sg k hk] at hq
  rw [(formL k).word_putD h.ok n (formP k) h.src]
  exact refPut_yes k hk (formP k) rfl c.1 c.2.1 c.2.2 n hq w
theorem progFits_is (k : Nat) (hk : 1 ≤ k ∧ k ≤ 9) (n : Int) (q : Bool) (hq : ((formL k).number ((formL k).word n) == n) = q) (w : World) :
    Calls Tryz.prog 39 #[.int .i64 k, .int .i64 n] w fun e w' => e = .returned (.bool q) ∧ Below w.heap.size w w' :=
  (progFits k hk n w).mono fun e w' ⟨he, hw⟩ => ⟨by rw [he, hq], hw⟩
end Go.Proofs.YtakdhdaoklcidaaGreatDoor

namespace Go.Proofs.YtakdhdaoklcidaaGreatDoor
open Go.RowKit
set_option linter.unusedVariables false
set_option maxRecDepth 100000
theorem belN {B : Nat} {a w : World} (h : Below B a w) (n : Nat) : Below B a (w.drewN n) := ⟨h.os, h.tape, h.output, h.size, h.block⟩
set_option maxHeartbeats 1000000 in
theorem dfind_any (k : Nat) (h1 : 1 ≤ k) (h2 : k ≤ 113) (w : World) :
    Calls Tryz.prog 53 #[.int .i64 k] w fun e w' => e = .returned (.tuple #[.agg #[.string (nameT k), .int .u32 (matT k), .int .u8 (frmT k)], .bool true]) ∧ Below w.heap.size w w' := by
  by_cases c0 : k ≤ 21
  · have HJ := Lib.hid (jumpOrMove_any k (by omega) c0)
    generalize nameT k = nm at *
    generalize matT k = m at *
    generalize frmT k = fr at *
    have e0 : (k : Int) ≤ 21 := by omega
    have f1 : ¬ (k : Int) < 1 := by omega
    have f2 : ¬ (113 < (k : Int)) := by omega
    clear h1 h2 c0
    go_enter Tryz.func53, Tryz.ntmps53
    go_wp2_with (go_at_call 81; refine (HJ.out _).mono ?_; rintro e w1 ⟨rfl, hb1⟩; have HB : Hid (Below w.heap.size w w1) := Lib.hid (((Below.refl _ _).alloc (Nat.le_refl _) _).trans (hb1.mono (by simp))); have hz : w.heap.size < w1.heap.size := (by have := hb1.size; simp at this; omega); obtain ⟨hc, hf⟩ := bcell hb1; clear hb1)
    exact bodyPost_ret (v := .tuple #[.agg #[.string nm, .int .u32 m, .int .u8 fr], .bool true]) (by simp [results, Tryz.results53, go_sem, hc, hz]) rfl ⟨rfl, ((HB.out.setCell (by simp) _).setCell (by simp) _).setCell (by simp) _⟩
  by_cases c1 : k ≤ 62
  · have HJ := Lib.hid (reckoning_any k (by omega) c1)
    generalize nameT k = nm at *
    generalize matT k = m at *
    generalize frmT k = fr at *
    have d0 : ¬ (k : Int) ≤ 21 := by omega
    have e1 : (k : Int) ≤ 62 := by omega
    have f1 : ¬ (k : Int) < 1 := by omega
    have f2 : ¬ (113 < (k : Int)) := by omega
    clear h1 h2 c0 c1
    go_enter Tryz.func53, Tryz.ntmps53
    go_wp2_with (go_at_call 82; refine (HJ.out _).mono ?_; rintro e w1 ⟨rfl, hb1⟩; have HB : Hid (Below w.heap.size w w1) := Lib.hid (((Below.refl _ _).alloc (Nat.le_refl _) _).trans (hb1.mono (by simp))); have hz : w.heap.size < w1.heap.size := (by have := hb1.size; simp at this; omega); obtain ⟨hc, hf⟩ := bcell hb1; clear hb1)
    exact bodyPost_ret (v := .tuple #[.agg #[.string nm, .int .u32 m, .int .u8 fr], .bool true]) (by simp [results, Tryz.results53, go_sem, hc, hz]) rfl ⟨rfl, ((HB.out.setCell (by simp) _).setCell (by simp) _).setCell (by simp) _⟩
  by_cases c2 : k ≤ 84
  · have HJ := Lib.hid (atomic_any k (by omega) c2)
    generalize nameT k = nm at *
    generalize matT k = m at *
    generalize frmT k = fr at *
    have d0 : ¬ (k : Int) ≤ 21 := by omega
    have d1 : ¬ (k : Int) ≤ 62 := by omega
    have e2 : (k : Int) ≤ 84 := by omega
    have f1 : ¬ (k : Int) < 1 := by omega
    have f2 : ¬ (113 < (k : Int)) := by omega
    clear h1 h2 c0 c1 c2
    go_enter Tryz.func53, Tryz.ntmps53
    go_wp2_with (go_at_call 83; refine (HJ.out _).mono ?_; rintro e w1 ⟨rfl, hb1⟩; have HB : Hid (Below w.heap.size w w1) := Lib.hid (((Below.refl _ _).alloc (Nat.le_refl _) _).trans (hb1.mono (by simp))); have hz : w.heap.size < w1.heap.size := (by have := hb1.size; simp at this; omega); obtain ⟨hc, hf⟩ := bcell hb1; clear hb1)
    exact bodyPost_ret (v := .tuple #[.agg #[.string nm, .int .u32 m, .int .u8 fr], .bool true]) (by simp [results, Tryz.results53, go_sem, hc, hz]) rfl ⟨rfl, ((HB.out.setCell (by simp) _).setCell (by simp) _).setCell (by simp) _⟩
  have HJ := Lib.hid (system_any k (by omega) h2)
  generalize nameT k = nm at *
  generalize matT k = m at *
  generalize frmT k = fr at *
  have d0 : ¬ (k : Int) ≤ 21 := by omega
  have d1 : ¬ (k : Int) ≤ 62 := by omega
  have d2 : ¬ (k : Int) ≤ 84 := by omega
  have f1 : ¬ (k : Int) < 1 := by omega
  have f2 : ¬ (113 < (k : Int)) := by omega
  clear h1 h2 c0 c1 c2
  go_enter Tryz.func53, Tryz.ntmps53
  go_wp2_with (go_at_call 84; refine (HJ.out _).mono ?_; rintro e w1 ⟨rfl, hb1⟩; have HB : Hid (Below w.heap.size w w1) := Lib.hid (((Below.refl _ _).alloc (Nat.le_refl _) _).trans (hb1.mono (by simp))); have hz : w.heap.size < w1.heap.size := (by have := hb1.size; simp at this; omega); obtain ⟨hc, hf⟩ := bcell hb1; clear hb1)
  exact bodyPost_ret (v := .tuple #[.agg #[.string nm, .int .u32 m, .int .u8 fr], .bool true]) (by simp [results, Tryz.results53, go_sem, hc, hz]) rfl ⟨rfl, ((HB.out.setCell (by simp) _).setCell (by simp) _).setCell (by simp) _⟩
theorem dfind_none (op : Int) (h : ¬ (1 ≤ op ∧ op ≤ 113)) (w : World) :
    Calls Tryz.prog 53 #[.int .i64 op] w fun e w' => e = .returned (.tuple #[.agg #[.string ⟨#[]⟩, .int .u32 0, .int .u8 0], .bool false]) ∧ Below w.heap.size w w' := by
  by_cases h1 : op < 1
  · clear h
    go_enter Tryz.func53, Tryz.ntmps53
    go_wp2
    exact bodyPost_ret (v := .tuple #[.agg #[.string ⟨#[]⟩, .int .u32 0, .int .u8 0], .bool false]) (by simp [results, Tryz.results53, go_sem]) rfl ⟨rfl, (Below.refl _ _).alloc (Nat.le_refl _) _⟩
  · have h2 : 113 < op := by omega
    clear h
    go_enter Tryz.func53, Tryz.ntmps53
    go_wp2
    exact bodyPost_ret (v := .tuple #[.agg #[.string ⟨#[]⟩, .int .u32 0, .int .u8 0], .bool false]) (by simp [results, Tryz.results53, go_sem]) rfl ⟨rfl, (Below.refl _ _).alloc (Nat.le_refl _) _⟩
def formsQ : Array Value := #[.int .u32 127, .bool true, .bool false, .bool false, .int .i64 4, .bool false, .bool false, .int .u32 127, .bool true, .bool false, .bool false, .int .i64 5, .bool false, .bool false, .int .u32 28799, .bool true, .bool true, .bool false, .int .i64 1, .bool false, .bool false, .int .u32 28799, .bool false, .bool true, .bool true, .int .i64 3, .bool false, .bool false, .int .u32 28799, .bool false, .bool true, .bool true, .int .i64 2, .bool false, .bool false, .int .u32 4227887231, .bool true, .bool true, .bool false, .int .i64 6, .bool false, .bool false, .int .u32 4261441663, .bool true, .bool true, .bool false, .int .i64 7, .bool false, .bool false, .int .u32 4261441663, .bool true, .bool true, .bool true, .int .i64 0, .bool false, .bool false, .int .u32 4193284223, .bool true, .bool true, .bool false, .int .i64 0, .bool false, .bool true, .int .u32 4160778367, .bool true, .bool true, .bool true, .int .i64 0, .bool false, .bool true, .int .u32 4294967295, .bool false, .bool false, .bool false, .int .i64 0, .bool false, .bool false, .int .u32 4261445631, .bool false, .bool true, .bool true, .int .i64 0, .bool false, .bool false, .int .u32 28799, .bool true, .bool true, .bool false, .int .i64 0, .bool true, .bool false, .int .u32 28799, .bool true, .bool false, .bool false, .int .i64 9, .bool true, .bool false, .int .u32 4293947519, .bool true, .bool true, .bool false, .int .i64 0, .bool false, .bool false]
def Tab (w : World) : Prop := ∃ t fr, w.heap[0]? = some (.cells formsQ t fr)
theorem Tab.lt {w : World} (h : Tab w) : 0 < w.heap.size := by obtain ⟨t, fr, h⟩ := h; exact (Array.getElem?_eq_some_iff.1 h).1
theorem Tab.below {w w' : World} (h : Tab w) (o : Below w.heap.size w w') : Tab w' := by
  have hl := h.lt
  obtain ⟨t, fr, h⟩ := h; exact ⟨t, fr, (o.block _ hl).trans h⟩
theorem Tab.cell {w : World} (h : Tab w) {o : Nat} {v : Value} (hv : formsQ[o]? = some v) : w.cell? ⟨0, o, none⟩ = some v := by
  obtain ⟨t, fr, h⟩ := h
  rw [cell_of_row w _ o _ t fr h]; exact hv
theorem forms_row : ∀ k, k < 15 → formsQ[k * 7]? = some (.int .u32 (frm k).mask) ∧ formsQ[k * 7 + 1]? = some (.bool (frm k).rd) ∧ formsQ[k * 7 + 2]? = some (.bool (frm k).a) ∧ formsQ[k * 7 + 3]? = some (.bool (frm k).b) ∧ formsQ[k * 7 + 4]? = some (.int .i64 (frm k).imm) ∧ formsQ[k * 7 + 5]? = some (.bool (frm k).csr) ∧ formsQ[k * 7 + 6]? = some (.bool (frm k).ord)
  | 0, _ => ⟨rfl, rfl, rfl, rfl, rfl, rfl, rfl⟩
  | 1, _ => ⟨rfl, rfl, rfl, rfl, rfl, rfl, rfl⟩
  | 2, _ => ⟨rfl, rfl, rfl, rfl, rfl, rfl, rfl⟩
  | 3, _ => ⟨rfl, rfl, rfl, rfl, rfl, rfl, rfl⟩
  | 4, _ => ⟨rfl, rfl, rfl, rfl, rfl, rfl, rfl⟩
  | 5, _ => ⟨rfl, rfl, rfl, rfl, rfl, rfl, rfl⟩
  | 6, _ => ⟨rfl, rfl, rfl, rfl, rfl, rfl, rfl⟩
  | 7, _ => ⟨rfl, rfl, rfl, rfl, rfl, rfl, rfl⟩
  | 8, _ => ⟨rfl, rfl, rfl, rfl, rfl, rfl, rfl⟩
  | 9, _ => ⟨rfl, rfl, rfl, rfl, rfl, rfl, rfl⟩
  | 10, _ => ⟨rfl, rfl, rfl, rfl, rfl, rfl, rfl⟩
  | 11, _ => ⟨rfl, rfl, rfl, rfl, rfl, rfl, rfl⟩
  | 12, _ => ⟨rfl, rfl, rfl, rfl, rfl, rfl, rfl⟩
  | 13, _ => ⟨rfl, rfl, rfl, rfl, rfl, rfl, rfl⟩
  | 14, _ => ⟨rfl, rfl, rfl, rfl, rfl, rfl, rfl⟩
  | k + 15, h => absurd h (by omega)
theorem register_any (x : Int) (s : Int) (h0 : 0 ≤ s) (h1 : s + 4 ≤ 31) (w : World) :
    Calls Tryz.prog 88 #[.int .u32 x, .int .i64 s] w fun e w' => e = .returned (.int .i64 (fldZ x (s + 4) s)) ∧ w = w' := by
  have b := fldZ_in32 x (s + 4) s
  unfold In32 at b
  obtain ⟨b1, b2⟩ := b
  have HF := Lib.hid fun w => field_any x (s + 4) s w
  generalize fldZ x (s + 4) s = y at *
  go_enter Tryz.func88, Tryz.ntmps88
  go_wp2_with (go_at_call 89; refine (HF.out _).mono ?_; rintro e w3 ⟨rfl, rfl⟩)
  go_ret
  exact ⟨rfl, rfl⟩
theorem put_any (n : Int) (s : Nat) (h1 : s + 4 ≤ 31) (w : World) :
    Calls Tryz.prog 85 #[.int .i64 n, .int .i64 s] w fun e w' => e = .returned (.int .u32 (put5 n s)) ∧ w = w' := by
  have hs : (s : Int) < 64 := by omega
  have HF := Lib.hid fun w => field_any (IntKind.u32.wrap n) 4 0 w
  have HP : Hid (put5 n s = IntKind.u32.wrap (fldZ (IntKind.u32.wrap n) 4 0 * 2 ^ s)) := Lib.hid rfl
  generalize fldZ (IntKind.u32.wrap n) 4 0 = y at *
  go_enter Tryz.func85, Tryz.ntmps85
  go_wp2_with (go_at_call 89; refine (HF.out _).mono ?_; rintro e w3 ⟨rfl, rfl⟩)
  go_ret
  exact ⟨ret_int HP.out.symm, rfl⟩
theorem mark_any (b : Bool) (s : Nat) (h1 : s ≤ 31) (w : World) :
    Calls Tryz.prog 86 #[.bool b, .int .i64 s] w fun e w' => e = .returned (.int .u32 (markZ b s)) ∧ w = w' := by
  cases b
  · go_enter Tryz.func86, Tryz.ntmps86
    go_wp2
    go_ret
    exact ⟨rfl, rfl⟩
  · have h2 : (2 : Int) ^ s % 4294967296 = 2 ^ s := by
      have a := two_pow_pos s
      have b : (2 : Int) ^ s ≤ 2 ^ 31 := by exact_mod_cast Nat.pow_le_pow_right (by omega) h1
      have c : (2 : Int) ^ 31 = 2147483648 := rfl
      omega
    have HE : Hid (IntKind.u32.wrap (2 ^ s) = 2 ^ s) := Lib.hid (by rw [wrap32, h2])
    clear h2
    have hs : (s : Int) < 64 := by omega
    go_enter Tryz.func86, Tryz.ntmps86
    go_wp2
    go_ret
    exact ⟨ret_int HE.out, rfl⟩
end Go.Proofs.YtakdhdaoklcidaaGreatDoor

namespace Go.Proofs.YtakdhdaoklcidaaGreatDoor
open Go.Shelf
set_option linter.unusedVariables false
set_option maxRecDepth 100000
def cutLays_ren : Go.Shelf.Ren := ⟨fun | 145 => 34 | 220 => 62 | 219 => 94 | 217 => 114 | 225 => 115 | 224 => 116 | 267 => 117 | 266 => 145 | 314 => 146 | n => n, fun | 9 => 9 | 4 => 4 | 59 => 62 | 3 => 3 | 5 => 5 | 46 => 75 | 146 => 192 | 51 => 43 | n => n, fun | 1 => 2 | n => n⟩
theorem cutLays : Go.Proofs.Lays.n145 Tryz.prog cutLays_ren where
  mixed := by kernel_rfl
  f145 := Tryz.func34.trans (congrArg some (by kernel_rfl))
  f217 := Tryz.func114.trans (congrArg some (by kernel_rfl))
  f219 := Tryz.func94.trans (congrArg some (by kernel_rfl))
  f220 := Tryz.func62.trans (congrArg some (by kernel_rfl))
  f224 := Tryz.func116.trans (congrArg some (by kernel_rfl))
  f225 := Tryz.func115.trans (congrArg some (by kernel_rfl))
  f266 := Tryz.func145.trans (congrArg some (by kernel_rfl))
  f267 := Tryz.func117.trans (congrArg some (by kernel_rfl))
  f314 := Tryz.func146.trans (congrArg some (by kernel_rfl))
  t3 := Tryz.underlying3
  a3 := Tryz.isAgg3
  z3 := Tryz.sizeOf3
  v3 := Tryz.zeroValue3
  t4 := Tryz.underlying4
  a4 := Tryz.isAgg4
  z4 := Tryz.sizeOf4
  v4 := Tryz.zeroValue4
  t5 := Tryz.underlying5
  a5 := Tryz.isAgg5
  z5 := Tryz.sizeOf5
  v5 := Tryz.zeroValue5
  t9 := Tryz.underlying9
  a9 := Tryz.isAgg9
  z9 := Tryz.sizeOf9
  v9 := Tryz.zeroValue9
  t46 := Tryz.underlying75
  a46 := Tryz.isAgg75
  z46 := Tryz.sizeOf75
  v46 := Tryz.zeroValue75
  t51 := Tryz.underlying43
  a51 := Tryz.isAgg43
  z51 := Tryz.sizeOf43
  v51 := Tryz.zeroValue43
  t59 := Tryz.underlying62
  a59 := Tryz.isAgg62
  z59 := Tryz.sizeOf62
  v59 := Tryz.zeroValue62
  t146 := Tryz.underlying192
  a146 := Tryz.isAgg192
  z146 := Tryz.sizeOf192
  v146 := Tryz.zeroValue192
  g1 := by kernel_rfl
def sufLays_ren : Go.Shelf.Ren := ⟨fun | 104 => 69 | 211 => 99 | 207 => 124 | n => n, fun | 9 => 9 | 4 => 4 | 24 => 114 | 3 => 3 | n => n, fun | n => n⟩
theorem sufLays : Go.Proofs.Lays.n104 Tryz.prog sufLays_ren where
  mixed := by kernel_rfl
  f104 := Tryz.func69.trans (congrArg some (by kernel_rfl))
  f207 := Tryz.func124.trans (congrArg some (by kernel_rfl))
  f211 := Tryz.func99.trans (congrArg some (by kernel_rfl))
  t3 := Tryz.underlying3
  a3 := Tryz.isAgg3
  z3 := Tryz.sizeOf3
  v3 := Tryz.zeroValue3
  t4 := Tryz.underlying4
  a4 := Tryz.isAgg4
  z4 := Tryz.sizeOf4
  v4 := Tryz.zeroValue4
  t9 := Tryz.underlying9
  a9 := Tryz.isAgg9
  z9 := Tryz.sizeOf9
  v9 := Tryz.zeroValue9
  t24 := Tryz.underlying114
  a24 := Tryz.isAgg114
  z24 := Tryz.sizeOf114
  v24 := Tryz.zeroValue114
def preLays_ren : Go.Shelf.Ren := ⟨fun | 101 => 66 | 208 => 97 | 206 => 122 | n => n, fun | 9 => 9 | 4 => 4 | 3 => 3 | n => n, fun | n => n⟩
theorem preLays : Go.Proofs.Lays.n101 Tryz.prog preLays_ren where
  mixed := by kernel_rfl
  f101 := Tryz.func66.trans (congrArg some (by kernel_rfl))
  f206 := Tryz.func122.trans (congrArg some (by kernel_rfl))
  f208 := Tryz.func97.trans (congrArg some (by kernel_rfl))
  t3 := Tryz.underlying3
  a3 := Tryz.isAgg3
  z3 := Tryz.sizeOf3
  v3 := Tryz.zeroValue3
  t4 := Tryz.underlying4
  a4 := Tryz.isAgg4
  z4 := Tryz.sizeOf4
  v4 := Tryz.zeroValue4
  t9 := Tryz.underlying9
  a9 := Tryz.isAgg9
  z9 := Tryz.sizeOf9
  v9 := Tryz.zeroValue9
def bstrLays_ren : Go.Shelf.Ren := ⟨fun | 169 => 58 | n => n, fun | 70 => 101 | 9 => 9 | 0 => 0 | 72 => 103 | 37 => 48 | 127 => 146 | 3 => 3 | 5 => 5 | n => n, fun | n => n⟩
theorem bstrLays : Go.Proofs.Lays.n169 Tryz.prog bstrLays_ren where
  mixed := by kernel_rfl
  f169 := Tryz.func58.trans (congrArg some (by kernel_rfl))
  t0 := Tryz.underlying0
  a0 := Tryz.isAgg0
  z0 := Tryz.sizeOf0
  v0 := Tryz.zeroValue0
  t3 := Tryz.underlying3
  a3 := Tryz.isAgg3
  z3 := Tryz.sizeOf3
  v3 := Tryz.zeroValue3
  t9 := Tryz.underlying9
  a9 := Tryz.isAgg9
  z9 := Tryz.sizeOf9
  v9 := Tryz.zeroValue9
  t37 := Tryz.underlying48
  a37 := Tryz.isAgg48
  z37 := Tryz.sizeOf48
  v37 := Tryz.zeroValue48
  t70 := Tryz.underlying101
  a70 := Tryz.isAgg101
  z70 := Tryz.sizeOf101
  v70 := Tryz.zeroValue101
  t72 := Tryz.underlying103
  a72 := Tryz.isAgg103
  z72 := Tryz.sizeOf103
  v72 := Tryz.zeroValue103
  t127 := Tryz.underlying146
  a127 := Tryz.isAgg146
  z127 := Tryz.sizeOf146
  v127 := Tryz.zeroValue146
end Go.Proofs.YtakdhdaoklcidaaGreatDoor

namespace Go.Proofs.YtakdhdaoklcidaaGreatDoor
open Go.Shelf
set_option linter.unusedVariables false
set_option maxRecDepth 100000
def itoaLays_ren : Go.Shelf.Ren := ⟨fun | 171 => 59 | 243 => 92 | 246 => 93 | 283 => 110 | 284 => 111 | 285 => 112 | 286 => 113 | 129 => 141 | 317 => 140 | 318 => 142 | 319 => 143 | 320 => 144 | 337 => 160 | 338 => 41 | n => n, fun | 3 => 3 | 9 => 9 | 2 => 2 | 4 => 4 | 171 => 162 | 0 => 0 | 53 => 36 | 37 => 48 | 5 => 5 | 173 => 164 | 212 => 189 | 51 => 43 | 20 => 20 | 213 => 190 | 46 => 75 | 232 => 207 | 233 => 125 | n => n, fun | 17 => 3 | 18 => 6 | 19 => 1 | n => n⟩
theorem itoaLays : Go.Proofs.LaysM.n171 Tryz.prog itoaLays_ren where
  mixed := by kernel_rfl
  f129 := Tryz.func141.trans (congrArg some (by kernel_rfl))
  f171 := Tryz.func59.trans (congrArg some (by kernel_rfl))
  f243 := Tryz.func92.trans (congrArg some (by kernel_rfl))
  f246 := Tryz.func93.trans (congrArg some (by kernel_rfl))
  f283 := Tryz.func110.trans (congrArg some (by kernel_rfl))
  f284 := Tryz.func111.trans (congrArg some (by kernel_rfl))
  f285 := Tryz.func112.trans (congrArg some (by kernel_rfl))
  f286 := Tryz.func113.trans (congrArg some (by kernel_rfl))
  f317 := Tryz.func140.trans (congrArg some (by kernel_rfl))
  f318 := Tryz.func142.trans (congrArg some (by kernel_rfl))
  f319 := Tryz.func143.trans (congrArg some (by kernel_rfl))
  f320 := Tryz.func144.trans (congrArg some (by kernel_rfl))
  f337 := Tryz.func160.trans (congrArg some (by kernel_rfl))
  f338 := Tryz.func41.trans (congrArg some (by kernel_rfl))
  t0 := Tryz.underlying0
  a0 := Tryz.isAgg0
  z0 := Tryz.sizeOf0
  v0 := Tryz.zeroValue0
  t2 := Tryz.underlying2
  a2 := Tryz.isAgg2
  z2 := Tryz.sizeOf2
  v2 := Tryz.zeroValue2
  t3 := Tryz.underlying3
  a3 := Tryz.isAgg3
  z3 := Tryz.sizeOf3
  v3 := Tryz.zeroValue3
  t4 := Tryz.underlying4
  a4 := Tryz.isAgg4
  z4 := Tryz.sizeOf4
  v4 := Tryz.zeroValue4
  t5 := Tryz.underlying5
  a5 := Tryz.isAgg5
  z5 := Tryz.sizeOf5
  v5 := Tryz.zeroValue5
  t9 := Tryz.underlying9
  a9 := Tryz.isAgg9
  z9 := Tryz.sizeOf9
  v9 := Tryz.zeroValue9
  t20 := Tryz.underlying20
  a20 := Tryz.isAgg20
  z20 := Tryz.sizeOf20
  v20 := Tryz.zeroValue20
  t37 := Tryz.underlying48
  a37 := Tryz.isAgg48
  z37 := Tryz.sizeOf48
  v37 := Tryz.zeroValue48
  t46 := Tryz.underlying75
  a46 := Tryz.isAgg75
  z46 := Tryz.sizeOf75
  v46 := Tryz.zeroValue75
  t51 := Tryz.underlying43
  a51 := Tryz.isAgg43
  z51 := Tryz.sizeOf43
  v51 := Tryz.zeroValue43
  t53 := Tryz.underlying36
  a53 := Tryz.isAgg36
  z53 := Tryz.sizeOf36
  v53 := Tryz.zeroValue36
  t171 := Tryz.underlying162
  a171 := Tryz.isAgg162
  z171 := Tryz.sizeOf162
  v171 := Tryz.zeroValue162
  t173 := Tryz.underlying164
  a173 := Tryz.isAgg164
  z173 := Tryz.sizeOf164
  v173 := Tryz.zeroValue164
  t212 := Tryz.underlying189
  a212 := Tryz.isAgg189
  z212 := Tryz.sizeOf189
  v212 := Tryz.zeroValue189
  t213 := Tryz.underlying190
  a213 := Tryz.isAgg190
  z213 := Tryz.sizeOf190
  t232 := Tryz.underlying207
  a232 := Tryz.isAgg207
  z232 := Tryz.sizeOf207
  v232 := Tryz.zeroValue207
  t233 := Tryz.underlying125
  a233 := Tryz.isAgg125
  z233 := Tryz.sizeOf125
  v233 := Tryz.zeroValue125
  g17 := by kernel_rfl
  g18 := by kernel_rfl
  g19 := by kernel_rfl
  i0 := by kernel_rfl
  i2 := by kernel_rfl
  i3 := by kernel_rfl
  i4 := by kernel_rfl
  i5 := by kernel_rfl
  i9 := by kernel_rfl
  i20 := by kernel_rfl
  i37 := by kernel_rfl
  i46 := by kernel_rfl
  i51 := by kernel_rfl
  i53 := by kernel_rfl
  i171 := by kernel_rfl
  i173 := by kernel_rfl
  i212 := by kernel_rfl
  i232 := by kernel_rfl
  i233 := by kernel_rfl
  m17 := by kernel_rfl
  m18 := by kernel_rfl
  m19 := by kernel_rfl
def fmtLays_ren : Go.Shelf.Ren := ⟨fun | 173 => 60 | 246 => 93 | 283 => 110 | 284 => 111 | 285 => 112 | 286 => 113 | 129 => 141 | 317 => 140 | 318 => 142 | 319 => 143 | 320 => 144 | 337 => 160 | 338 => 41 | n => n, fun | 2 => 2 | 3 => 3 | 9 => 9 | 4 => 4 | 171 => 162 | 0 => 0 | 53 => 36 | 37 => 48 | 5 => 5 | 173 => 164 | 212 => 189 | 51 => 43 | 20 => 20 | 213 => 190 | 46 => 75 | 232 => 207 | 233 => 125 | n => n, fun | 17 => 3 | 18 => 6 | 19 => 1 | n => n⟩
theorem fmtLays : Go.Proofs.LaysM.n173 Tryz.prog fmtLays_ren where
  mixed := by kernel_rfl
  f129 := Tryz.func141.trans (congrArg some (by kernel_rfl))
  f173 := Tryz.func60.trans (congrArg some (by kernel_rfl))
  f246 := Tryz.func93.trans (congrArg some (by kernel_rfl))
  f283 := Tryz.func110.trans (congrArg some (by kernel_rfl))
  f284 := Tryz.func111.trans (congrArg some (by kernel_rfl))
  f285 := Tryz.func112.trans (congrArg some (by kernel_rfl))
  f286 := Tryz.func113.trans (congrArg some (by kernel_rfl))
  f317 := Tryz.func140.trans (congrArg some (by kernel_rfl))
  f318 := Tryz.func142.trans (congrArg some (by kernel_rfl))
  f319 := Tryz.func143.trans (congrArg some (by kernel_rfl))
  f320 := Tryz.func144.trans (congrArg some (by kernel_rfl))
  f337 := Tryz.func160.trans (congrArg some (by kernel_rfl))
  f338 := Tryz.func41.trans (congrArg some (by kernel_rfl))
  t0 := Tryz.underlying0
  a0 := Tryz.isAgg0
  z0 := Tryz.sizeOf0
  v0 := Tryz.zeroValue0
  t2 := Tryz.underlying2
  a2 := Tryz.isAgg2
  z2 := Tryz.sizeOf2
  v2 := Tryz.zeroValue2
  t3 := Tryz.underlying3
  a3 := Tryz.isAgg3
  z3 := Tryz.sizeOf3
  v3 := Tryz.zeroValue3
  t4 := Tryz.underlying4
  a4 := Tryz.isAgg4
  z4 := Tryz.sizeOf4
  v4 := Tryz.zeroValue4
  t5 := Tryz.underlying5
  a5 := Tryz.isAgg5
  z5 := Tryz.sizeOf5
  v5 := Tryz.zeroValue5
  t9 := Tryz.underlying9
  a9 := Tryz.isAgg9
  z9 := Tryz.sizeOf9
  v9 := Tryz.zeroValue9
  t20 := Tryz.underlying20
  a20 := Tryz.isAgg20
  z20 := Tryz.sizeOf20
  v20 := Tryz.zeroValue20
  t37 := Tryz.underlying48
  a37 := Tryz.isAgg48
  z37 := Tryz.sizeOf48
  v37 := Tryz.zeroValue48
  t46 := Tryz.underlying75
  a46 := Tryz.isAgg75
  z46 := Tryz.sizeOf75
  v46 := Tryz.zeroValue75
  t51 := Tryz.underlying43
  a51 := Tryz.isAgg43
  z51 := Tryz.sizeOf43
  v51 := Tryz.zeroValue43
  t53 := Tryz.underlying36
  a53 := Tryz.isAgg36
  z53 := Tryz.sizeOf36
  v53 := Tryz.zeroValue36
  t171 := Tryz.underlying162
  a171 := Tryz.isAgg162
  z171 := Tryz.sizeOf162
  v171 := Tryz.zeroValue162
  t173 := Tryz.underlying164
  a173 := Tryz.isAgg164
  z173 := Tryz.sizeOf164
  v173 := Tryz.zeroValue164
  t212 := Tryz.underlying189
  a212 := Tryz.isAgg189
  z212 := Tryz.sizeOf189
  v212 := Tryz.zeroValue189
  t213 := Tryz.underlying190
  a213 := Tryz.isAgg190
  z213 := Tryz.sizeOf190
  t232 := Tryz.underlying207
  a232 := Tryz.isAgg207
  z232 := Tryz.sizeOf207
  v232 := Tryz.zeroValue207
  t233 := Tryz.underlying125
  a233 := Tryz.isAgg125
  z233 := Tryz.sizeOf125
  v233 := Tryz.zeroValue125
  g17 := by kernel_rfl
  g18 := by kernel_rfl
  g19 := by kernel_rfl
  i0 := by kernel_rfl
  i2 := by kernel_rfl
  i3 := by kernel_rfl
  i4 := by kernel_rfl
  i5 := by kernel_rfl
  i9 := by kernel_rfl
  i20 := by kernel_rfl
  i37 := by kernel_rfl
  i46 := by kernel_rfl
  i51 := by kernel_rfl
  i53 := by kernel_rfl
  i171 := by kernel_rfl
  i173 := by kernel_rfl
  i212 := by kernel_rfl
  i232 := by kernel_rfl
  i233 := by kernel_rfl
  m17 := by kernel_rfl
  m18 := by kernel_rfl
  m19 := by kernel_rfl
def atoiLays_ren : Go.Shelf.Ren := ⟨fun | 172 => 65 | 244 => 95 | 245 => 96 | 247 => 98 | 279 => 118 | 280 => 119 | 281 => 120 | 282 => 121 | 287 => 123 | 316 => 147 | 171 => 59 | 205 => 148 | 321 => 149 | 322 => 150 | 243 => 92 | 246 => 93 | 283 => 110 | 284 => 111 | 285 => 112 | 286 => 113 | 129 => 141 | 317 => 140 | 318 => 142 | 319 => 143 | 320 => 144 | 337 => 160 | 338 => 41 | n => n, fun | 9 => 9 | 3 => 3 | 75 => 105 | 76 => 106 | 4 => 4 | 5 => 5 | 167 => 168 | 37 => 48 | 0 => 0 | 85 => 112 | 2 => 2 | 168 => 169 | 53 => 36 | 175 => 173 | 46 => 75 | 210 => 196 | 127 => 146 | 145 => 205 | 143 => 203 | 21 => 21 | 171 => 162 | 173 => 164 | 212 => 189 | 51 => 43 | 20 => 20 | 213 => 190 | 232 => 207 | 233 => 125 | 80 => 108 | n => n, fun | 15 => 4 | 16 => 5 | 17 => 3 | 18 => 6 | 19 => 1 | n => n⟩
theorem atoiLays : Go.Proofs.LaysC.n172 Tryz.prog atoiLays_ren where
  mixed := by kernel_rfl
  f129 := Tryz.func141.trans (congrArg some (by kernel_rfl))
  f171 := Tryz.func59.trans (congrArg some (by kernel_rfl))
  f172 := Tryz.func65.trans (congrArg some (by kernel_rfl))
  f205 := Tryz.func148.trans (congrArg some (by kernel_rfl))
  f243 := Tryz.func92.trans (congrArg some (by kernel_rfl))
  f244 := Tryz.func95.trans (congrArg some (by kernel_rfl))
  f245 := Tryz.func96.trans (congrArg some (by kernel_rfl))
  f246 := Tryz.func93.trans (congrArg some (by kernel_rfl))
  f247 := Tryz.func98.trans (congrArg some (by kernel_rfl))
  f279 := Tryz.func118.trans (congrArg some (by kernel_rfl))
  f280 := Tryz.func119.trans (congrArg some (by kernel_rfl))
  f281 := Tryz.func120.trans (congrArg some (by kernel_rfl))
  f282 := Tryz.func121.trans (congrArg some (by kernel_rfl))
  f283 := Tryz.func110.trans (congrArg some (by kernel_rfl))
  f284 := Tryz.func111.trans (congrArg some (by kernel_rfl))
  f285 := Tryz.func112.trans (congrArg some (by kernel_rfl))
  f286 := Tryz.func113.trans (congrArg some (by kernel_rfl))
  f287 := Tryz.func123.trans (congrArg some (by kernel_rfl))
  f316 := Tryz.func147.trans (congrArg some (by kernel_rfl))
  f317 := Tryz.func140.trans (congrArg some (by kernel_rfl))
  f318 := Tryz.func142.trans (congrArg some (by kernel_rfl))
  f319 := Tryz.func143.trans (congrArg some (by kernel_rfl))
  f320 := Tryz.func144.trans (congrArg some (by kernel_rfl))
  f321 := Tryz.func149.trans (congrArg some (by kernel_rfl))
  f322 := Tryz.func150.trans (congrArg some (by kernel_rfl))
  f337 := Tryz.func160.trans (congrArg some (by kernel_rfl))
  f338 := Tryz.func41.trans (congrArg some (by kernel_rfl))
  t0 := Tryz.underlying0
  a0 := Tryz.isAgg0
  z0 := Tryz.sizeOf0
  v0 := Tryz.zeroValue0
  t2 := Tryz.underlying2
  a2 := Tryz.isAgg2
  z2 := Tryz.sizeOf2
  v2 := Tryz.zeroValue2
  t3 := Tryz.underlying3
  a3 := Tryz.isAgg3
  z3 := Tryz.sizeOf3
  v3 := Tryz.zeroValue3
  t4 := Tryz.underlying4
  a4 := Tryz.isAgg4
  z4 := Tryz.sizeOf4
  v4 := Tryz.zeroValue4
  t5 := Tryz.underlying5
  a5 := Tryz.isAgg5
  z5 := Tryz.sizeOf5
  v5 := Tryz.zeroValue5
  t9 := Tryz.underlying9
  a9 := Tryz.isAgg9
  z9 := Tryz.sizeOf9
  v9 := Tryz.zeroValue9
  t20 := Tryz.underlying20
  a20 := Tryz.isAgg20
  z20 := Tryz.sizeOf20
  v20 := Tryz.zeroValue20
  t21 := Tryz.underlying21
  a21 := Tryz.isAgg21
  z21 := Tryz.sizeOf21
  v21 := Tryz.zeroValue21
  t37 := Tryz.underlying48
  a37 := Tryz.isAgg48
  z37 := Tryz.sizeOf48
  v37 := Tryz.zeroValue48
  t46 := Tryz.underlying75
  a46 := Tryz.isAgg75
  z46 := Tryz.sizeOf75
  v46 := Tryz.zeroValue75
  t51 := Tryz.underlying43
  a51 := Tryz.isAgg43
  z51 := Tryz.sizeOf43
  v51 := Tryz.zeroValue43
  t53 := Tryz.underlying36
  a53 := Tryz.isAgg36
  z53 := Tryz.sizeOf36
  v53 := Tryz.zeroValue36
  t75 := Tryz.underlying105
  a75 := Tryz.isAgg105
  z75 := Tryz.sizeOf105
  v75 := Tryz.zeroValue105
  t76 := Tryz.underlying106
  a76 := Tryz.isAgg106
  z76 := Tryz.sizeOf106
  v76 := Tryz.zeroValue106
  t85 := Tryz.underlying112
  a85 := Tryz.isAgg112
  z85 := Tryz.sizeOf112
  v85 := Tryz.zeroValue112
  t127 := Tryz.underlying146
  a127 := Tryz.isAgg146
  z127 := Tryz.sizeOf146
  v127 := Tryz.zeroValue146
  t143 := Tryz.underlying203
  a143 := Tryz.isAgg203
  z143 := Tryz.sizeOf203
  v143 := Tryz.zeroValue203
  t145 := Tryz.underlying205
  a145 := Tryz.isAgg205
  z145 := Tryz.sizeOf205
  v145 := Tryz.zeroValue205
  t167 := Tryz.underlying168
  a167 := Tryz.isAgg168
  z167 := Tryz.sizeOf168
  v167 := Tryz.zeroValue168
  t168 := Tryz.underlying169
  a168 := Tryz.isAgg169
  z168 := Tryz.sizeOf169
  v168 := Tryz.zeroValue169
  t171 := Tryz.underlying162
  a171 := Tryz.isAgg162
  z171 := Tryz.sizeOf162
  v171 := Tryz.zeroValue162
  t173 := Tryz.underlying164
  a173 := Tryz.isAgg164
  z173 := Tryz.sizeOf164
  v173 := Tryz.zeroValue164
  t175 := Tryz.underlying173
  a175 := Tryz.isAgg173
  z175 := Tryz.sizeOf173
  v175 := Tryz.zeroValue173
  t210 := Tryz.underlying196
  a210 := Tryz.isAgg196
  z210 := Tryz.sizeOf196
  v210 := Tryz.zeroValue196
  t212 := Tryz.underlying189
  a212 := Tryz.isAgg189
  z212 := Tryz.sizeOf189
  v212 := Tryz.zeroValue189
  t213 := Tryz.underlying190
  a213 := Tryz.isAgg190
  z213 := Tryz.sizeOf190
  t232 := Tryz.underlying207
  a232 := Tryz.isAgg207
  z232 := Tryz.sizeOf207
  v232 := Tryz.zeroValue207
  t233 := Tryz.underlying125
  a233 := Tryz.isAgg125
  z233 := Tryz.sizeOf125
  v233 := Tryz.zeroValue125
  g15 := by kernel_rfl
  g16 := by kernel_rfl
  g17 := by kernel_rfl
  g18 := by kernel_rfl
  g19 := by kernel_rfl
  t80 := Tryz.underlying108
  a80 := Tryz.isAgg108
  z80 := Tryz.sizeOf108
  v80 := Tryz.zeroValue108
  i0 := by kernel_rfl
  i2 := by kernel_rfl
  i3 := by kernel_rfl
  i4 := by kernel_rfl
  i5 := by kernel_rfl
  i9 := by kernel_rfl
  i20 := by kernel_rfl
  i21 := by kernel_rfl
  i37 := by kernel_rfl
  i46 := by kernel_rfl
  i51 := by kernel_rfl
  i53 := by kernel_rfl
  i75 := by kernel_rfl
  i76 := by kernel_rfl
  i80 := by kernel_rfl
  i85 := by kernel_rfl
  i127 := by kernel_rfl
  i143 := by kernel_rfl
  i145 := by kernel_rfl
  i167 := by kernel_rfl
  i168 := by kernel_rfl
  i171 := by kernel_rfl
  i173 := by kernel_rfl
  i175 := by kernel_rfl
  i210 := by kernel_rfl
  i212 := by kernel_rfl
  i232 := by kernel_rfl
  i233 := by kernel_rfl
  m15 := by kernel_rfl
  m16 := by kernel_rfl
  m17 := by kernel_rfl
  m18 := by kernel_rfl
  m19 := by kernel_rfl
  c0 := by kernel_rfl
  c2 := by kernel_rfl
  c3 := by kernel_rfl
  c4 := by kernel_rfl
  c5 := by kernel_rfl
  c9 := by kernel_rfl
  c20 := by kernel_rfl
  c21 := by kernel_rfl
  c37 := by kernel_rfl
  c46 := by kernel_rfl
  c51 := by kernel_rfl
  c53 := by kernel_rfl
  c75 := by kernel_rfl
  c76 := by kernel_rfl
  c80 := by kernel_rfl
  c85 := by kernel_rfl
  c127 := by kernel_rfl
  c143 := by kernel_rfl
  c145 := by kernel_rfl
  c167 := by kernel_rfl
  c168 := by kernel_rfl
  c171 := by kernel_rfl
  c173 := by kernel_rfl
  c175 := by kernel_rfl
  c210 := by kernel_rfl
  c212 := by kernel_rfl
  c213 := by kernel_rfl
  c232 := by kernel_rfl
  c233 := by kernel_rfl
def pintLays_ren : Go.Shelf.Ren := ⟨fun | 174 => 68 | 247 => 98 | 245 => 96 | 287 => 123 | 279 => 118 | 280 => 119 | 281 => 120 | 282 => 121 | 321 => 149 | 322 => 150 | 316 => 147 | 171 => 59 | 205 => 148 | 243 => 92 | 246 => 93 | 283 => 110 | 284 => 111 | 285 => 112 | 286 => 113 | 129 => 141 | 317 => 140 | 318 => 142 | 319 => 143 | 320 => 144 | 337 => 160 | 338 => 41 | n => n, fun | 9 => 9 | 3 => 3 | 2 => 2 | 75 => 105 | 85 => 112 | 4 => 4 | 167 => 168 | 5 => 5 | 53 => 36 | 175 => 173 | 46 => 75 | 168 => 169 | 37 => 48 | 0 => 0 | 210 => 196 | 21 => 21 | 127 => 146 | 145 => 205 | 143 => 203 | 171 => 162 | 173 => 164 | 212 => 189 | 51 => 43 | 20 => 20 | 213 => 190 | 232 => 207 | 233 => 125 | 80 => 108 | n => n, fun | 15 => 4 | 16 => 5 | 17 => 3 | 18 => 6 | 19 => 1 | n => n⟩
theorem pintLays : Go.Proofs.LaysC.n174 Tryz.prog pintLays_ren where
  mixed := by kernel_rfl
  f129 := Tryz.func141.trans (congrArg some (by kernel_rfl))
  f171 := Tryz.func59.trans (congrArg some (by kernel_rfl))
  f174 := Tryz.func68.trans (congrArg some (by kernel_rfl))
  f205 := Tryz.func148.trans (congrArg some (by kernel_rfl))
  f243 := Tryz.func92.trans (congrArg some (by kernel_rfl))
  f245 := Tryz.func96.trans (congrArg some (by kernel_rfl))
  f246 := Tryz.func93.trans (congrArg some (by kernel_rfl))
  f247 := Tryz.func98.trans (congrArg some (by kernel_rfl))
  f279 := Tryz.func118.trans (congrArg some (by kernel_rfl))
  f280 := Tryz.func119.trans (congrArg some (by kernel_rfl))
  f281 := Tryz.func120.trans (congrArg some (by kernel_rfl))
  f282 := Tryz.func121.trans (congrArg some (by kernel_rfl))
  f283 := Tryz.func110.trans (congrArg some (by kernel_rfl))
  f284 := Tryz.func111.trans (congrArg some (by kernel_rfl))
  f285 := Tryz.func112.trans (congrArg some (by kernel_rfl))
  f286 := Tryz.func113.trans (congrArg some (by kernel_rfl))
  f287 := Tryz.func123.trans (congrArg some (by kernel_rfl))
  f316 := Tryz.func147.trans (congrArg some (by kernel_rfl))
  f317 := Tryz.func140.trans (congrArg some (by kernel_rfl))
  f318 := Tryz.func142.trans (congrArg some (by kernel_rfl))
  f319 := Tryz.func143.trans (congrArg some (by kernel_rfl))
  f320 := Tryz.func144.trans (congrArg some (by kernel_rfl))
  f321 := Tryz.func149.trans (congrArg some (by kernel_rfl))
  f322 := Tryz.func150.trans (congrArg some (by kernel_rfl))
  f337 := Tryz.func160.trans (congrArg some (by kernel_rfl))
  f338 := Tryz.func41.trans (congrArg some (by kernel_rfl))
  t0 := Tryz.underlying0
  a0 := Tryz.isAgg0
  z0 := Tryz.sizeOf0
  v0 := Tryz.zeroValue0
  t2 := Tryz.underlying2
  a2 := Tryz.isAgg2
  z2 := Tryz.sizeOf2
  v2 := Tryz.zeroValue2
  t3 := Tryz.underlying3
  a3 := Tryz.isAgg3
  z3 := Tryz.sizeOf3
  v3 := Tryz.zeroValue3
  t4 := Tryz.underlying4
  a4 := Tryz.isAgg4
  z4 := Tryz.sizeOf4
  v4 := Tryz.zeroValue4
  t5 := Tryz.underlying5
  a5 := Tryz.isAgg5
  z5 := Tryz.sizeOf5
  v5 := Tryz.zeroValue5
  t9 := Tryz.underlying9
  a9 := Tryz.isAgg9
  z9 := Tryz.sizeOf9
  v9 := Tryz.zeroValue9
  t20 := Tryz.underlying20
  a20 := Tryz.isAgg20
  z20 := Tryz.sizeOf20
  v20 := Tryz.zeroValue20
  t21 := Tryz.underlying21
  a21 := Tryz.isAgg21
  z21 := Tryz.sizeOf21
  v21 := Tryz.zeroValue21
  t37 := Tryz.underlying48
  a37 := Tryz.isAgg48
  z37 := Tryz.sizeOf48
  v37 := Tryz.zeroValue48
  t46 := Tryz.underlying75
  a46 := Tryz.isAgg75
  z46 := Tryz.sizeOf75
  v46 := Tryz.zeroValue75
  t51 := Tryz.underlying43
  a51 := Tryz.isAgg43
  z51 := Tryz.sizeOf43
  v51 := Tryz.zeroValue43
  t53 := Tryz.underlying36
  a53 := Tryz.isAgg36
  z53 := Tryz.sizeOf36
  v53 := Tryz.zeroValue36
  t75 := Tryz.underlying105
  a75 := Tryz.isAgg105
  z75 := Tryz.sizeOf105
  v75 := Tryz.zeroValue105
  t85 := Tryz.underlying112
  a85 := Tryz.isAgg112
  z85 := Tryz.sizeOf112
  v85 := Tryz.zeroValue112
  t127 := Tryz.underlying146
  a127 := Tryz.isAgg146
  z127 := Tryz.sizeOf146
  v127 := Tryz.zeroValue146
  t143 := Tryz.underlying203
  a143 := Tryz.isAgg203
  z143 := Tryz.sizeOf203
  v143 := Tryz.zeroValue203
  t145 := Tryz.underlying205
  a145 := Tryz.isAgg205
  z145 := Tryz.sizeOf205
  v145 := Tryz.zeroValue205
  t167 := Tryz.underlying168
  a167 := Tryz.isAgg168
  z167 := Tryz.sizeOf168
  v167 := Tryz.zeroValue168
  t168 := Tryz.underlying169
  a168 := Tryz.isAgg169
  z168 := Tryz.sizeOf169
  v168 := Tryz.zeroValue169
  t171 := Tryz.underlying162
  a171 := Tryz.isAgg162
  z171 := Tryz.sizeOf162
  v171 := Tryz.zeroValue162
  t173 := Tryz.underlying164
  a173 := Tryz.isAgg164
  z173 := Tryz.sizeOf164
  v173 := Tryz.zeroValue164
  t175 := Tryz.underlying173
  a175 := Tryz.isAgg173
  z175 := Tryz.sizeOf173
  v175 := Tryz.zeroValue173
  t210 := Tryz.underlying196
  a210 := Tryz.isAgg196
  z210 := Tryz.sizeOf196
  v210 := Tryz.zeroValue196
  t212 := Tryz.underlying189
  a212 := Tryz.isAgg189
  z212 := Tryz.sizeOf189
  v212 := Tryz.zeroValue189
  t213 := Tryz.underlying190
  a213 := Tryz.isAgg190
  z213 := Tryz.sizeOf190
  t232 := Tryz.underlying207
  a232 := Tryz.isAgg207
  z232 := Tryz.sizeOf207
  v232 := Tryz.zeroValue207
  t233 := Tryz.underlying125
  a233 := Tryz.isAgg125
  z233 := Tryz.sizeOf125
  v233 := Tryz.zeroValue125
  g15 := by kernel_rfl
  g16 := by kernel_rfl
  g17 := by kernel_rfl
  g18 := by kernel_rfl
  g19 := by kernel_rfl
  t80 := Tryz.underlying108
  a80 := Tryz.isAgg108
  z80 := Tryz.sizeOf108
  v80 := Tryz.zeroValue108
  i0 := by kernel_rfl
  i2 := by kernel_rfl
  i3 := by kernel_rfl
  i4 := by kernel_rfl
  i5 := by kernel_rfl
  i9 := by kernel_rfl
  i20 := by kernel_rfl
  i21 := by kernel_rfl
  i37 := by kernel_rfl
  i46 := by kernel_rfl
  i51 := by kernel_rfl
  i53 := by kernel_rfl
  i75 := by kernel_rfl
  i80 := by kernel_rfl
  i85 := by kernel_rfl
  i127 := by kernel_rfl
  i143 := by kernel_rfl
  i145 := by kernel_rfl
  i167 := by kernel_rfl
  i168 := by kernel_rfl
  i171 := by kernel_rfl
  i173 := by kernel_rfl
  i175 := by kernel_rfl
  i210 := by kernel_rfl
  i212 := by kernel_rfl
  i232 := by kernel_rfl
  i233 := by kernel_rfl
  m15 := by kernel_rfl
  m16 := by kernel_rfl
  m17 := by kernel_rfl
  m18 := by kernel_rfl
  m19 := by kernel_rfl
  c0 := by kernel_rfl
  c2 := by kernel_rfl
  c3 := by kernel_rfl
  c4 := by kernel_rfl
  c5 := by kernel_rfl
  c9 := by kernel_rfl
  c20 := by kernel_rfl
  c21 := by kernel_rfl
  c37 := by kernel_rfl
  c46 := by kernel_rfl
  c51 := by kernel_rfl
  c53 := by kernel_rfl
  c75 := by kernel_rfl
  c80 := by kernel_rfl
  c85 := by kernel_rfl
  c127 := by kernel_rfl
  c143 := by kernel_rfl
  c145 := by kernel_rfl
  c167 := by kernel_rfl
  c168 := by kernel_rfl
  c171 := by kernel_rfl
  c173 := by kernel_rfl
  c175 := by kernel_rfl
  c210 := by kernel_rfl
  c212 := by kernel_rfl
  c213 := by kernel_rfl
  c232 := by kernel_rfl
  c233 := by kernel_rfl
end Go.Proofs.YtakdhdaoklcidaaGreatDoor

namespace Go.Proofs.YtakdhdaoklcidaaGreatDoor
open Go.RowKit Go.Lib
set_option linter.unusedVariables false
set_option maxRecDepth 100000
theorem gPow : Tryz.prog.globalNamed "internal/strconv.uint64pow10" = some 3 := by kernel_rfl
theorem cell_stays {w w' : World} (hb : Below w.heap.size w w') {a : Addr} {v : Value} (hc : w.cell? a = some v) : w'.cell? a = some v := (hb.cell (World.block_lt_of_cell? w a hc)).trans hc
structure Env (w : World) : Prop where
  tab : Tab w
  pow : Lib.TabIs Tryz.prog w "internal/strconv.uint64pow10" .u64 Lib.pow10Tab
  bru : ∀ j, j < 64 → ∃ k : Nat, w.cell? ⟨1, j, none⟩ = some (.int .u8 k) ∧ k = ([0, 1, 56, 2, 57, 49, 28, 3, 61, 58, 42, 50, 38, 29, 17, 4, 62, 47, 59, 36, 45, 43, 51, 22, 53, 39, 33, 30, 24, 18, 12, 5, 63, 55, 48, 27, 60, 41, 37, 16, 46, 35, 44, 21, 52, 32, 23, 11, 54, 26, 40, 15, 34, 20, 31, 10, 25, 14, 19, 9, 13, 8, 7, 6] : List Nat).getD j 0
  esy : ∃ tp p, w.cell? ⟨4, 0, none⟩ = some (.iface tp p)
  era : ∃ tp p, w.cell? ⟨5, 0, none⟩ = some (.iface tp p)
  mlen : ∃ m, w.cell? ⟨2, 0, none⟩ = some (.int .i64 m)
theorem pow_below {w w' : World} (h : Lib.TabIs Tryz.prog w "internal/strconv.uint64pow10" .u64 Lib.pow10Tab) (hb : Below w.heap.size w w') : Lib.TabIs Tryz.prog w' "internal/strconv.uint64pow10" .u64 Lib.pow10Tab := by
  unfold Lib.TabIs World.var? at h ⊢
  rw [gPow] at h ⊢
  simp only [Option.bind_some] at h ⊢
  have hlt : 3 < w.heap.size := by
    rcases Nat.lt_or_ge 3 w.heap.size with h' | h'
    · exact h'
    · rw [Array.getElem?_eq_none h'] at h; cases h
  rw [hb.block _ hlt]
  exact h
theorem Env.below {w w' : World} (h : Env w) (hb : Below w.heap.size w w') : Env w' where
  tab := h.tab.below hb
  pow := pow_below h.pow hb
  bru := fun j hj => by obtain ⟨k, h1, h2⟩ := h.bru j hj; exact ⟨k, cell_stays hb h1, h2⟩
  esy := by obtain ⟨t, p, h1⟩ := h.esy; exact ⟨t, p, cell_stays hb h1⟩
  era := by obtain ⟨t, p, h1⟩ := h.era; exact ⟨t, p, cell_stays hb h1⟩
  mlen := by obtain ⟨m, h1⟩ := h.mlen; exact ⟨m, cell_stays hb h1⟩
theorem drewN_below (w : World) (n : Nat) : Below w.heap.size w (w.drewN n) := ⟨rfl, rfl, rfl, Nat.le_refl _, fun _ _ => rfl⟩
theorem cutP (l sep : Bs) (w : World) (hs : l.length ≤ 1000000) (he : Env w) : Calls Tryz.prog 34 #[str l, str sep] w fun e w' => e = .returned (.tuple #[str (cut l sep).1, str (cut l sep).2.1, .bool (cut l sep).2.2]) ∧ Below w.heap.size w w' := by
  obtain ⟨m, hm⟩ := he.mlen
  refine (Any.strings_Cut cutLays ⟨l.toArray⟩ ⟨sep.toArray⟩ m w (by show l.toArray.size < _; rw [List.size_toArray]; omega) hm).mono ?_
  rintro e w' ⟨rfl, n, rfl⟩
  exact ⟨rfl, drewN_below _ _⟩
theorem sufP (l p : Bs) (w : World) (hs : l.length ≤ 1000000) : Calls Tryz.prog 69 #[str l, str p] w fun e w' => e = .returned (.tuple #[str (trimSuffix l p), .bool (hasSuffix l p)]) ∧ w = w' := by
  refine (Any.strings_CutSuffix sufLays ⟨l.toArray⟩ ⟨p.toArray⟩ w (by show l.toArray.size ≤ _; rw [List.size_toArray]; omega)).mono ?_
  rintro e w' ⟨rfl, rfl⟩
  exact ⟨rfl, rfl⟩
theorem preP (l p : Bs) (w : World) : Calls Tryz.prog 66 #[str l, str p] w fun e w' => e = .returned (str (trimPrefix l p)) ∧ w = w' := by
  refine (Any.strings_TrimPrefix preLays ⟨l.toArray⟩ ⟨p.toArray⟩ w).mono ?_
  rintro e w' ⟨rfl, rfl⟩
  exact ⟨rfl, rfl⟩
theorem itoaP (n : Int) (h0 : -9223372036854775808 ≤ n) (h1 : n ≤ 9223372036854775807) (w : World) (he : Env w) : Calls Tryz.prog 59 #[.int .i64 n] w fun e w' => e = .returned (str (itoa n)) ∧ Below w.heap.size w w' := by
  refine (Any.strconv_Itoa itoaLays n h0 h1 w he.pow).mono ?_
  rintro e w' ⟨rfl, k, os, rfl⟩
  exact ⟨rfl, below_grow _ _ (Nat.le_refl _) _ _⟩
theorem fmtP (n : Int) (h0 : -9223372036854775808 ≤ n) (h1 : n ≤ 9223372036854775807) (w : World) (he : Env w) : Calls Tryz.prog 60 #[.int .i64 n, .int .i64 10] w fun e w' => e = .returned (str (itoa n)) ∧ Below w.heap.size w w' := by
  refine (Any.strconv_FormatInt_10 fmtLays n h0 h1 w he.pow).mono ?_
  rintro e w' ⟨rfl, k, os, rfl⟩
  exact ⟨rfl, below_grow _ _ (Nat.le_refl _) _ _⟩
theorem atoi_some (l : Bs) (w : World) (hs : l.length ≤ 1000000) (he : Env w) : Calls Tryz.prog 65 #[str l] w fun e w' => ∃ v, e = .returned (.tuple #[.int .i64 (numP l), v]) ∧ Below w.heap.size w w' := by
  have hz : (⟨l.toArray⟩ : ByteArray).size = l.length := List.size_toArray
  unfold numP
  cases e : atoiAll l with
  | ok v =>
    refine (Any.strconv_Atoi_ok atoiLays ⟨l.toArray⟩ (by omega) v e w).mono ?_
    rintro e w' ⟨rfl, hw⟩
    refine ⟨_, rfl, ?_⟩
    rcases hw with rfl | ⟨t, rfl⟩
    · exact Below.refl _ _
    · exact Lib.bytesWorld_below _ _ _
  | range =>
    obtain ⟨tp, p, hv⟩ := he.era
    refine (Any.strconv_Atoi_range atoiLays ⟨l.toArray⟩ (by omega) e _ w hv (Or.inr ⟨tp, p, rfl⟩)).mono ?_
    rintro e w' ⟨N, rfl, _, _, hb⟩
    exact ⟨_, rfl, hb⟩
  | _ =>
    obtain ⟨tp, p, hv⟩ := he.esy
    refine (Any.strconv_Atoi_syntax atoiLays ⟨l.toArray⟩ (by omega) e _ w hv (Or.inr ⟨tp, p, rfl⟩)).mono ?_
    rintro e w' ⟨N, rfl, _, _, hb⟩
    exact ⟨_, rfl, hb⟩
theorem pint_some (l : Bs) (w : World) (hs : l.length ≤ 1000000) (he : Env w) : Calls Tryz.prog 68 #[str l, .int .i64 10, .int .i64 64] w fun e w' => ∃ v, e = .returned (.tuple #[.int .i64 (numP l), v]) ∧ Below w.heap.size w w' := by
  have hz : (⟨l.toArray⟩ : ByteArray).size = l.length := List.size_toArray
  unfold numP
  cases e : atoiAll l with
  | ok v =>
    rw [← parseIntB_64] at e
    refine (Any.strconv_ParseInt_10_at64_ok pintLays ⟨l.toArray⟩ (by omega) v e w).mono ?_
    rintro e w' ⟨rfl, hw⟩
    refine ⟨_, rfl, ?_⟩
    rcases hw with rfl | ⟨t, rfl⟩
    · exact Below.refl _ _
    · exact Lib.bytesWorld_below _ _ _
  | range =>
    obtain ⟨tp, p, hv⟩ := he.era
    rw [← parseIntB_64] at e
    refine (Any.strconv_ParseInt_10_at64_range pintLays ⟨l.toArray⟩ (by omega) e _ w hv (Or.inr ⟨tp, p, rfl⟩)).mono ?_
    rintro e w' ⟨N, rfl, _, _, hb⟩
    have e2 : Lib.intSat 64 (⟨l.toArray⟩ : ByteArray).data.toList = atoiSat l := intSat_64 l
    rw [e2]
    exact ⟨_, rfl, hb⟩
  | _ =>
    obtain ⟨tp, p, hv⟩ := he.esy
    rw [← parseIntB_64] at e
    refine (Any.strconv_ParseInt_10_at64_syntax pintLays ⟨l.toArray⟩ (by omega) e _ w hv (Or.inr ⟨tp, p, rfl⟩)).mono ?_
    rintro e w' ⟨N, rfl, _, _, hb⟩
    exact ⟨_, rfl, hb⟩
theorem registerText_any (n : Int) (h0 : -9223372036854775808 ≤ n) (h1 : n ≤ 9223372036854775807) (w : World) (he : Env w) : Calls Tryz.prog 28 #[.int .i64 n] w fun e w' => e = .returned (str (xr n)) ∧ Below w.heap.size w w' := by
  have H := Lib.hid (itoaP n h0 h1 w he)
  have hx : str (xr n) = .string ((⟨#[120]⟩ : ByteArray) ++ ⟨(itoa n).toArray⟩) := by
    show Value.string _ = Value.string _
    congr 1
  have HX := Lib.hid hx
  have hl := itoa_length_le n h0 h1
  clear hx h0 h1 he
  generalize xr n = xs at *
  generalize itoa n = ys at *
  go_enter Tryz.func28, Tryz.ntmps28
  go_wp2_with (go_at_call 59; (with_reducible refine H.out.mono ?_); rintro e1 w1 ⟨rfl, hb1⟩; have HB := Lib.hid hb1; clear hb1)
  go_ret
  exact ⟨(congrArg Ending.returned HX.out).symm, HB.out⟩
theorem numberText_any (n : Int) (h0 : -9223372036854775808 ≤ n) (h1 : n ≤ 9223372036854775807) (w : World) (he : Env w) : Calls Tryz.prog 29 #[.int .i64 n] w fun e w' => e = .returned (str (itoa n)) ∧ Below w.heap.size w w' := by
  have H := Lib.hid (fmtP n h0 h1 w he)
  clear h0 h1 he
  generalize itoa n = ys at *
  go_enter Tryz.func29, Tryz.ntmps29
  go_wp2_with (go_at_call 60; (with_reducible refine H.out.mono ?_); rintro e1 w1 ⟨rfl, hb1⟩; have HB := Lib.hid hb1; clear hb1)
  go_ret
  exact ⟨rfl, HB.out⟩
end Go.Proofs.YtakdhdaoklcidaaGreatDoor

namespace Go.Proofs.YtakdhdaoklcidaaGreatDoor
open Go.RowKit
set_option linter.unusedVariables false
set_option maxRecDepth 100000
structure Only (S : Nat → Prop) (w w' : World) : Prop where
  os : w'.os = w.os
  tape : w'.tape = w.tape
  output : w'.output = w.output
  size : w.heap.size ≤ w'.heap.size
  block : ∀ k, k < w.heap.size → ¬ S k → w'.heap[k]? = w.heap[k]?
theorem Only.refl (S : Nat → Prop) (w : World) : Only S w w := ⟨rfl, rfl, rfl, Nat.le_refl _, fun _ _ _ => rfl⟩
theorem Only.step {S T : Nat → Prop} {a b c : World} (h : Only S a b) (k : Only T b c) (hT : ∀ i, T i → S i ∨ a.heap.size ≤ i) : Only S a c :=
  ⟨k.os.trans h.os, k.tape.trans h.tape, k.output.trans h.output, Nat.le_trans h.size k.size, fun i hi hs =>
    (k.block i (Nat.lt_of_lt_of_le hi h.size) (fun ht => by rcases hT i ht with h1 | h1; exact hs h1; omega)).trans (h.block i hi hs)⟩
theorem Only.trans {S : Nat → Prop} {a b c : World} (h : Only S a b) (k : Only S b c) : Only S a c := h.step k fun _ hi => .inl hi
theorem Only.mono {S T : Nat → Prop} {a b : World} (h : Only S a b) (hT : ∀ i, S i → T i ∨ a.heap.size ≤ i) : Only T a b := (Only.refl T a).step h hT
theorem Only.of_below {w w' : World} (S : Nat → Prop) (h : Below w.heap.size w w') : Only S w w' := ⟨h.os, h.tape, h.output, h.size, fun k hk _ => h.block k hk⟩
theorem Only.below {S : Nat → Prop} {w w' : World} {B : Nat} (h : Only S w w') (hS : ∀ k, S k → B ≤ k) (hB : B ≤ w.heap.size) : Below B w w' :=
  ⟨h.os, h.tape, h.output, h.size, fun k hk => h.block k (by omega) (fun hs => by have := hS k hs; omega)⟩
theorem Only.thenBelow {S : Nat → Prop} {a b c : World} (h : Only S a b) (k : Below b.heap.size b c) : Only S a c := h.trans (Only.of_below S k)
theorem Below.thenOnly {S : Nat → Prop} {a b c : World} {B : Nat} (h : Below B a b) (k : Only S b c) (hS : ∀ i, S i → B ≤ i) (hB : B ≤ b.heap.size) : Below B a c := h.trans (k.below hS hB)
theorem Only.drewN {S : Nat → Prop} {a w : World} (h : Only S a w) (n : Nat) : Only S a (w.drewN n) := ⟨h.os, h.tape, h.output, h.size, h.block⟩
theorem Only.alloc {S : Nat → Prop} {a w : World} (h : Only S a w) (o : Obj) : Only S a (w.alloc o) := h.thenBelow ((Below.refl _ _).alloc (Nat.le_refl _) o)
theorem Only.setCell {S : Nat → Prop} {a w : World} (h : Only S a w) {p : Addr} (hp : S p.block ∨ a.heap.size ≤ p.block) (u : Value) : Only S a (w.setCell p u) :=
  h.step (T := fun i => i = p.block) ⟨rfl, rfl, rfl, by simp [World.setCell], fun k _ hk => Below.heap_setCell _ _ _ _ hk⟩ (by rintro i rfl; exact hp)
theorem Only.setRow {S : Nat → Prop} {a w : World} (h : Only S a w) {g : Nat} (hg : S g ∨ a.heap.size ≤ g) (cs : Array Value) : Only S a (w.setRow g cs) :=
  h.step (T := fun i => i = g) ⟨rfl, rfl, rfl, by rw [size_setRow]; exact Nat.le_refl _, fun k _ hk => Go.setRow_other w g k cs hk⟩ (by rintro i rfl; exact hg)
theorem Only.grown {S : Nat → Prop} {a w w' : World} {row : Option Nat} (h : Only S a w) (hg : w.grownBy w' row) (hr : ∀ k, row = some k → S k ∨ a.heap.size ≤ k) : Only S a w' :=
  h.step (T := fun i => row = some i) ⟨hg.os, hg.tape, hg.output, hg.size, fun k hk hn => hg.block k hk (fun e => hn e.symm)⟩ hr
theorem Only.keeps {S : Nat → Prop} {w w' : World} (h : Only S w w') {g : Nat} {o : Obj} (hs : ¬ S g) (hg : w.heap[g]? = some o) : w'.heap[g]? = some o :=
  (h.block g (Array.getElem?_eq_some_iff.1 hg).1 hs).trans hg
def Lays (w : World) (g : Nat) (vs : List Value) : Prop := ∃ cur t fr, w.heap[g]? = some (.cells cur t fr) ∧ cur.toList.take vs.length = vs
theorem Lays.lt {w : World} {g : Nat} {vs : List Value} (h : Lays w g vs) : g < w.heap.size := by
  obtain ⟨cur, t, fr, h, _⟩ := h; exact (Array.getElem?_eq_some_iff.1 h).1
theorem Lays.keeps {S : Nat → Prop} {w w' : World} {g : Nat} {vs : List Value} (h : Lays w g vs) (k : Only S w w') (hs : ¬ S g) : Lays w' g vs := by
  obtain ⟨cur, t, fr, h1, h2⟩ := h; exact ⟨cur, t, fr, k.keeps hs h1, h2⟩
theorem Lays.cell {w : World} {g : Nat} {vs : List Value} (h : Lays w g vs) {i : Nat} {v : Value} (hi : vs[i]? = some v) : w.cell? ⟨g, i, none⟩ = some v := by
  obtain ⟨cur, t, fr, h1, h2⟩ := h
  rw [cell_of_row w g i cur t fr h1]
  have hl : i < vs.length := (List.getElem?_eq_some_iff.1 hi).1
  have e : (cur.toList.take vs.length)[i]? = some v := by rw [h2]; exact hi
  rw [List.getElem?_take, if_pos hl] at e
  rw [← e]; simp
theorem Lays.own {base : Nat} {e : TypeId} {size : Nat} {w : World} {v : Value} {n : Nat} {vs : List Value} (h : w.ownsRow base e size v n vs) :
    (v = .slice none 0 0 ∧ n = 0 ∧ vs = []) ∨ ∃ g cap, v = .slice (some ⟨g, 0, none⟩) n cap ∧ base ≤ g ∧ Lays w g vs := by
  have hl := h.1
  rcases h.2 with ⟨hv, h0⟩ | ⟨g, cap, cur, hv, hg, hh, hn, _, hc, ht⟩
  · subst h0; exact .inl ⟨hv, rfl, List.eq_nil_of_length_eq_zero (by simpa using hl)⟩
  · exact .inr ⟨g, cap, hv, hg, cur, e, (0, 0), hh, by rw [hl]; exact ht⟩
end Go.Proofs.YtakdhdaoklcidaaGreatDoor

namespace Go.Proofs.YtakdhdaoklcidaaGreatDoor
open Go.RowKit
set_option linter.unusedVariables false
set_option maxRecDepth 100000
def letT : Nat → Nat
  | 0 => 85
  | 1 => 74
  | 2 => 73
  | 3 => 66
  | 4 => 83
  | 5 => 72
  | 6 => 87
  | 7 => 82
  | 8 => 76
  | 9 => 65
  | 10 => 78
  | 11 => 70
  | 12 => 67
  | 13 => 90
  | 14 => 86
  | _ => 0
section
variable {Q : Exit → Act → World → Prop} {w : World} {ops : Array Oper} {rest : List Oper} {o : Oper} {a : Act} {k : Int} {n : Nat}
structure At3 (k : Int) (n : Nat) (a : Act) : Prop where
  t3 : a.eval (.tmp 3) = .int .i64 k
  t2 : a.eval (.tmp 2) = .pointer (some ⟨n, 0, none⟩)
  sz : a.tmps.size = 344
  df : a.defers = []
theorem At3.put (h : At3 k n a) {e : Nat} (he : 3 < e) (v : Value) : At3 k n (a.put (some e) v) :=
  ⟨by rw [Act.eval_put_ne _ _ _ _ (by omega)]; exact h.t3, by rw [Act.eval_put_ne _ _ _ _ (by omega)]; exact h.t2, by rw [Act.size_put]; exact h.sz, by rw [Act.defers_put']; exact h.df⟩
theorem wpList_eqlI (hg : o.guard = none) {y : Int} (ho : o.op = .binOp .eql 3 (.tmp 3) (.const (.int .i64 y)) 3) {m : Int} (hx : a.eval (.tmp 3) = .int .i64 m) (h : wpList Tryz.prog ops Q rest (a.put o.dst (.bool (m == y))) w) : wpList Tryz.prog ops Q (o :: rest) a w := by
  refine wpList_plain hg fun K hK => ?_
  have hK' := hK _ _ h
  have hy : a.eval (.const (.int .i64 y)) = .int .i64 y := rfl
  unfold Oper.wp execOp
  simp only [ho, hx, hy]
  simp [go_sem]
  exact hK'
theorem wpList_asg (hg : o.guard = none) {x : Operand} (ho : o.op = .assign x) (h : wpList Tryz.prog ops Q rest (a.put o.dst (a.eval x)) w) : wpList Tryz.prog ops Q (o :: rest) a w :=
  by
  refine wpList_plain hg fun K hK => ?_
  have hK' := hK _ _ h
  unfold Oper.wp execOp
  simp only [ho]
  exact hK'
theorem chain {kk : Nat} (j : Nat) {n ix d : Nat} (ha : At3 kk n a) (hd : 3 < d) (hd2 : d + 1 < 344) {p1 p2 : String} {ty : TypeId} {af : Array Edge} {X Y : Code}
    (hy : kk = j → ∀ a', At3 kk n a' → X.wp Tryz.prog Q a' w) (hn : ¬ kk = j → ∀ a', At3 kk n a' → Y.wp Tryz.prog Q a' w) :
    ((Code.region ix #[{ dst := some (d + 1), op := .binOp .eql 3 (.tmp 3) (.const (.int .i64 j)) 3, type := ty, pos := p1, after := #[], guard := none }, { dst := some d, op := .assign (.tmp (d + 1)), type := ty, pos := p2, after := af, guard := none }] false).seq (Code.cond (.tmp d) X Y)).wp Tryz.prog Q a w := by
  refine wp_seq (wp_region_list ?_)
  refine wpList_eqlI rfl rfl ha.t3 ?_
  refine wpList_asg rfl rfl (wpList_nil ?_)
  rw [Act.eval_put_same _ _ _ (by rw [ha.sz]; omega)]
  show (Code.cond (.tmp d) X Y).wp Tryz.prog Q _ w
  have ha' := (ha.put (show 3 < d + 1 by omega) (.bool ((kk : Int) == j))).put hd (.bool ((kk : Int) == j))
  refine wp_cond_split (t := ((kk : Int) == j)) (Act.eval_put_same _ _ _ (by rw [Act.size_put, ha.sz]; omega)) (fun h => hy (by have := beq_iff_eq.1 h; omega) _ ha') (fun h => hn (by have := beq_eq_false_iff_ne.1 h; omega) _ ha')
theorem bldX (s : ByteArray) (mk mt l : Int) : Tryz.prog.built 59 [(0, .string s), (1, .int .u32 mk), (2, .int .u32 mt), (3, .int .u8 l)] = some #[.string s, .int .u32 mk, .int .u32 mt, .int .u8 l] := by kernel_rfl
theorem size_rowX : (Tryz.prog.info? 59).map (·.size) = some 4 := by kernel_rfl
theorem hres : Tryz.f31.results = #[.cell 2 59] := by kernel_rfl
theorem row_yes {R : Ending → World → Prop} {kk : Int} {n e ix : Nat} {old : Array Value} (ha : At3 kk n a) (he : 3 < e) (he2 : e < 344) {s : ByteArray} {mk mt l : Int} {p1 p2 : String} {ty ty2 : TypeId} {af : Array Edge}
    (hw : w.heap[n]? = some (.cells old 59 (0, 0))) (ho : old.size = 4) (hQ : ∀ a' w', bodyPost Tryz.prog Tryz.f31 R .ret a' w' → Q .ret a' w')
    (hR : R (.returned (.agg #[.string s, .int .u32 mk, .int .u32 mt, .int .u8 l])) (w.setRow n #[.string s, .int .u32 mk, .int .u32 mt, .int .u8 l])) :
    ((Code.region ix #[{ dst := some e, op := .build 59 #[(0, .const (.string s)), (1, .const (.int .u32 mk)), (2, .const (.int .u32 mt)), (3, .const (.int .u8 l))], type := ty, pos := p1, after := #[], guard := none }, { dst := none, op := .store 59 (.tmp 2) (.tmp e), type := ty2, pos := p2, after := af, guard := none }] false).seq Code.ret).wp Tryz.prog Q a w := by
  refine wp_seq (wp_region_list ?_)
  refine wpList_build rfl _ _ rfl (by simp [Act.eval, bldX]) ?_
  simp only [List.map_toArray, List.map_cons, List.map_nil]
  have hev : Tryz.prog.built 59 [(0, a.eval (.const (.string s))), (1, a.eval (.const (.int .u32 mk))), (2, a.eval (.const (.int .u32 mt))), (3, a.eval (.const (.int .u8 l)))] = some #[.string s, .int .u32 mk, .int .u32 mt, .int .u8 l] := bldX s mk mt l
  rw [hev]
  have ha' := ha.put he (.agg #[.string s, .int .u32 mk, .int .u32 mt, .int .u8 l])
  refine wpList_store_row rfl _ _ _ rfl n #[.string s, .int .u32 mk, .int .u32 mt, .int .u8 l] ha'.t2 (Act.eval_put_same _ _ _ (by rw [ha.sz]; omega)) _ old hw size_rowX ho (by simp [Value.oneCell']) (wpList_nil ?_)
  show Code.ret.wp Tryz.prog Q _ _
  refine wp_ret (hQ _ _ ?_)
  exact bodyPost_ret (results_cell_row hres _ _ n 59 _ _ _ ha'.t2 (setRow_heap _ _ _ _ _ _ hw) Tryz.underlying59 rfl size_rowX) ha'.df hR
end
set_option maxHeartbeats 4000000 in
theorem refRow_any (k : Nat) (h1 : 1 ≤ k) (h2 : k ≤ 113) (w : World) :
    Calls Tryz.prog 31 #[.int .i64 k] w fun e w' => e = .returned (.agg #[.string (nameT k), .int .u32 (mskT k), .int .u32 (matT k), .int .u8 (letT (frmT k))]) ∧ Below w.heap.size w w' := by
  let R0 : Ending → World → Prop := fun e w' => e = .returned (.agg #[.string (nameT k), .int .u32 (mskT k), .int .u32 (matT k), .int .u8 (letT (frmT k))]) ∧ Below w.heap.size w w'
  go_enter Tryz.func31, Tryz.ntmps31
  go_upto_block 0 with (fail)
  refine wp_block ?_
  have hw := heap_alloc_new w (.cells #[.string ⟨#[]⟩, .int .u32 0, .int .u32 0, .int .u8 0] 59)
  have hb : ∀ cs, Below w.heap.size w ((w.alloc (.cells #[.string ⟨#[]⟩, .int .u32 0, .int .u32 0, .int .u8 0] 59)).setRow w.heap.size cs) := fun cs => below_setRow ((Below.refl _ _).alloc (Nat.le_refl _) _) (Nat.le_refl _) cs
  generalize w.alloc (.cells #[.string ⟨#[]⟩, .int .u32 0, .int .u32 0, .int .u8 0] 59) = w1 at *
  refine chain 1 ⟨rfl, rfl, rfl, rfl⟩ (by omega) (by omega) (fun e a' ha => row_yes (R := R0) ha (by omega) (by omega) hw rfl (fun _ _ h => h) ⟨by subst e; rfl, hb _⟩) (fun c1 a1 h1 => ?_)
  refine chain 2 h1 (by omega) (by omega) (fun e a' ha => row_yes (R := R0) ha (by omega) (by omega) hw rfl (fun _ _ h => h) ⟨by subst e; rfl, hb _⟩) (fun c2 a2 h2 => ?_)
  refine chain 3 h2 (by omega) (by omega) (fun e a' ha => row_yes (R := R0) ha (by omega) (by omega) hw rfl (fun _ _ h => h) ⟨by subst e; rfl, hb _⟩) (fun c3 a3 h3 => ?_)
  refine chain 4 h3 (by omega) (by omega) (fun e a' ha => row_yes (R := R0) ha (by omega) (by omega) hw rfl (fun _ _ h => h) ⟨by subst e; rfl, hb _⟩) (fun c4 a4 h4 => ?_)
  refine chain 5 h4 (by omega) (by omega) (fun e a' ha => row_yes (R := R0) ha (by omega) (by omega) hw rfl (fun _ _ h => h) ⟨by subst e; rfl, hb _⟩) (fun c5 a5 h5 => ?_)
  refine chain 6 h5 (by omega) (by omega) (fun e a' ha => row_yes (R := R0) ha (by omega) (by omega) hw rfl (fun _ _ h => h) ⟨by subst e; rfl, hb _⟩) (fun c6 a6 h6 => ?_)
  refine chain 7 h6 (by omega) (by omega) (fun e a' ha => row_yes (R := R0) ha (by omega) (by omega) hw rfl (fun _ _ h => h) ⟨by subst e; rfl, hb _⟩) (fun c7 a7 h7 => ?_)
  refine chain 8 h7 (by omega) (by omega) (fun e a' ha => row_yes (R := R0) ha (by omega) (by omega) hw rfl (fun _ _ h => h) ⟨by subst e; rfl, hb _⟩) (fun c8 a8 h8 => ?_)
  refine chain 9 h8 (by omega) (by omega) (fun e a' ha => row_yes (R := R0) ha (by omega) (by omega) hw rfl (fun _ _ h => h) ⟨by subst e; rfl, hb _⟩) (fun c9 a9 h9 => ?_)
  refine chain 10 h9 (by omega) (by omega) (fun e a' ha => row_yes (R := R0) ha (by omega) (by omega) hw rfl (fun _ _ h => h) ⟨by subst e; rfl, hb _⟩) (fun c10 a10 h10 => ?_)
  refine chain 11 h10 (by omega) (by omega) (fun e a' ha => row_yes (R := R0) ha (by omega) (by omega) hw rfl (fun _ _ h => h) ⟨by subst e; rfl, hb _⟩) (fun c11 a11 h11 => ?_)
  refine chain 12 h11 (by omega) (by omega) (fun e a' ha => row_yes (R := R0) ha (by omega) (by omega) hw rfl (fun _ _ h => h) ⟨by subst e; rfl, hb _⟩) (fun c12 a12 h12 => ?_)
  refine chain 13 h12 (by omega) (by omega) (fun e a' ha => row_yes (R := R0) ha (by omega) (by omega) hw rfl (fun _ _ h => h) ⟨by subst e; rfl, hb _⟩) (fun c13 a13 h13 => ?_)
  refine chain 14 h13 (by omega) (by omega) (fun e a' ha => row_yes (R := R0) ha (by omega) (by omega) hw rfl (fun _ _ h => h) ⟨by subst e; rfl, hb _⟩) (fun c14 a14 h14 => ?_)
  refine chain 15 h14 (by omega) (by omega) (fun e a' ha => row_yes (R := R0) ha (by omega) (by omega) hw rfl (fun _ _ h => h) ⟨by subst e; rfl, hb _⟩) (fun c15 a15 h15 => ?_)
  refine chain 16 h15 (by omega) (by omega) (fun e a' ha => row_yes (R := R0) ha (by omega) (by omega) hw rfl (fun _ _ h => h) ⟨by subst e; rfl, hb _⟩) (fun c16 a16 h16 => ?_)
  refine chain 17 h16 (by omega) (by omega) (fun e a' ha => row_yes (R := R0) ha (by omega) (by omega) hw rfl (fun _ _ h => h) ⟨by subst e; rfl, hb _⟩) (fun c17 a17 h17 => ?_)
  refine chain 18 h17 (by omega) (by omega) (fun e a' ha => row_yes (R := R0) ha (by omega) (by omega) hw rfl (fun _ _ h => h) ⟨by subst e; rfl, hb _⟩) (fun c18 a18 h18 => ?_)
  refine chain 19 h18 (by omega) (by omega) (fun e a' ha => row_yes (R := R0) ha (by omega) (by omega) hw rfl (fun _ _ h => h) ⟨by subst e; rfl, hb _⟩) (fun c19 a19 h19 => ?_)
  refine chain 20 h19 (by omega) (by omega) (fun e a' ha => row_yes (R := R0) ha (by omega) (by omega) hw rfl (fun _ _ h => h) ⟨by subst e; rfl, hb _⟩) (fun c20 a20 h20 => ?_)
  refine chain 21 h20 (by omega) (by omega) (fun e a' ha => row_yes (R := R0) ha (by omega) (by omega) hw rfl (fun _ _ h => h) ⟨by subst e; rfl, hb _⟩) (fun c21 a21 h21 => ?_)
  refine chain 22 h21 (by omega) (by omega) (fun e a' ha => row_yes (R := R0) ha (by omega) (by omega) hw rfl (fun _ _ h => h) ⟨by subst e; rfl, hb _⟩) (fun c22 a22 h22 => ?_)
  refine chain 23 h22 (by omega) (by omega) (fun e a' ha => row_yes (R := R0) ha (by omega) (by omega) hw rfl (fun _ _ h => h) ⟨by subst e; rfl, hb _⟩) (fun c23 a23 h23 => ?_)
  refine chain 24 h23 (by omega) (by omega) (fun e a' ha => row_yes (R := R0) ha (by omega) (by omega) hw rfl (fun _ _ h => h) ⟨by subst e; rfl, hb _⟩) (fun c24 a24 h24 => ?_)
  refine chain 25 h24 (by omega) (by omega) (fun e a' ha => row_yes (R := R0) ha (by omega) (by omega) hw rfl (fun _ _ h => h) ⟨by subst e; rfl, hb _⟩) (fun c25 a25 h25 => ?_)
  refine chain 26 h25 (by omega) (by omega) (fun e a' ha => row_yes (R := R0) ha (by omega) (by omega) hw rfl (fun _ _ h => h) ⟨by subst e; rfl, hb _⟩) (fun c26 a26 h26 => ?_)
  refine chain 27 h26 (by omega) (by omega) (fun e a' ha => row_yes (R := R0) ha (by omega) (by omega) hw rfl (fun _ _ h => h) ⟨by subst e; rfl, hb _⟩) (fun c27 a27 h27 => ?_)
  refine chain 28 h27 (by omega) (by omega) (fun e a' ha => row_yes (R := R0) ha (by omega) (by omega) hw rfl (fun _ _ h => h) ⟨by subst e; rfl, hb _⟩) (fun c28 a28 h28 => ?_)
  refine chain 29 h28 (by omega) (by omega) (fun e a' ha => row_yes (R := R0) ha (by omega) (by omega) hw rfl (fun _ _ h => h) ⟨by subst e; rfl, hb _⟩) (fun c29 a29 h29 => ?_)
  refine chain 30 h29 (by omega) (by omega) (fun e a' ha => row_yes (R := R0) ha (by omega) (by omega) hw rfl (fun _ _ h => h) ⟨by subst e; rfl, hb _⟩) (fun c30 a30 h30 => ?_)
  refine chain 31 h30 (by omega) (by omega) (fun e a' ha => row_yes (R := R0) ha (by omega) (by omega) hw rfl (fun _ _ h => h) ⟨by subst e; rfl, hb _⟩) (fun c31 a31 h31 => ?_)
  refine chain 32 h31 (by omega) (by omega) (fun e a' ha => row_yes (R := R0) ha (by omega) (by omega) hw rfl (fun _ _ h => h) ⟨by subst e; rfl, hb _⟩) (fun c32 a32 h32 => ?_)
  refine chain 33 h32 (by omega) (by omega) (fun e a' ha => row_yes (R := R0) ha (by omega) (by omega) hw rfl (fun _ _ h => h) ⟨by subst e; rfl, hb _⟩) (fun c33 a33 h33 => ?_)
  refine chain 34 h33 (by omega) (by omega) (fun e a' ha => row_yes (R := R0) ha (by omega) (by omega) hw rfl (fun _ _ h => h) ⟨by subst e; rfl, hb _⟩) (fun c34 a34 h34 => ?_)
  refine chain 35 h34 (by omega) (by omega) (fun e a' ha => row_yes (R := R0) ha (by omega) (by omega) hw rfl (fun _ _ h => h) ⟨by subst e; rfl, hb _⟩) (fun c35 a35 h35 => ?_)
  refine chain 36 h35 (by omega) (by omega) (fun e a' ha => row_yes (R := R0) ha (by omega) (by omega) hw rfl (fun _ _ h => h) ⟨by subst e; rfl, hb _⟩) (fun c36 a36 h36 => ?_)
  refine chain 37 h36 (by omega) (by omega) (fun e a' ha => row_yes (R := R0) ha (by omega) (by omega) hw rfl (fun _ _ h => h) ⟨by subst e; rfl, hb _⟩) (fun c37 a37 h37 => ?_)
  refine chain 38 h37 (by omega) (by omega) (fun e a' ha => row_yes (R := R0) ha (by omega) (by omega) hw rfl (fun _ _ h => h) ⟨by subst e; rfl, hb _⟩) (fun c38 a38 h38 => ?_)
  refine chain 39 h38 (by omega) (by omega) (fun e a' ha => row_yes (R := R0) ha (by omega) (by omega) hw rfl (fun _ _ h => h) ⟨by subst e; rfl, hb _⟩) (fun c39 a39 h39 => ?_)
  refine chain 40 h39 (by omega) (by omega) (fun e a' ha => row_yes (R := R0) ha (by omega) (by omega) hw rfl (fun _ _ h => h) ⟨by subst e; rfl, hb _⟩) (fun c40 a40 h40 => ?_)
  refine chain 41 h40 (by omega) (by omega) (fun e a' ha => row_yes (R := R0) ha (by omega) (by omega) hw rfl (fun _ _ h => h) ⟨by subst e; rfl, hb _⟩) (fun c41 a41 h41 => ?_)
  refine chain 42 h41 (by omega) (by omega) (fun e a' ha => row_yes (R := R0) ha (by omega) (by omega) hw rfl (fun _ _ h => h) ⟨by subst e; rfl, hb _⟩) (fun c42 a42 h42 => ?_)
  refine chain 43 h42 (by omega) (by omega) (fun e a' ha => row_yes (R := R0) ha (by omega) (by omega) hw rfl (fun _ _ h => h) ⟨by subst e; rfl, hb _⟩) (fun c43 a43 h43 => ?_)
  refine chain 44 h43 (by omega) (by omega) (fun e a' ha => row_yes (R := R0) ha (by omega) (by omega) hw rfl (fun _ _ h => h) ⟨by subst e; rfl, hb _⟩) (fun c44 a44 h44 => ?_)
  refine chain 45 h44 (by omega) (by omega) (fun e a' ha => row_yes (R := R0) ha (by omega) (by omega) hw rfl (fun _ _ h => h) ⟨by subst e; rfl, hb _⟩) (fun c45 a45 h45 => ?_)
  refine chain 46 h45 (by omega) (by omega) (fun e a' ha => row_yes (R := R0) ha (by omega) (by omega) hw rfl (fun _ _ h => h) ⟨by subst e; rfl, hb _⟩) (fun c46 a46 h46 => ?_)
  refine chain 47 h46 (by omega) (by omega) (fun e a' ha => row_yes (R := R0) ha (by omega) (by omega) hw rfl (fun _ _ h => h) ⟨by subst e; rfl, hb _⟩) (fun c47 a47 h47 => ?_)
  refine chain 48 h47 (by omega) (by omega) (fun e a' ha => row_yes (R := R0) ha (by omega) (by omega) hw rfl (fun _ _ h => h) ⟨by subst e; rfl, hb _⟩) (fun c48 a48 h48 => ?_)
  refine chain 49 h48 (by omega) (by omega) (fun e a' ha => row_yes (R := R0) ha (by omega) (by omega) hw rfl (fun _ _ h => h) ⟨by subst e; rfl, hb _⟩) (fun c49 a49 h49 => ?_)
  refine chain 50 h49 (by omega) (by omega) (fun e a' ha => row_yes (R := R0) ha (by omega) (by omega) hw rfl (fun _ _ h => h) ⟨by subst e; rfl, hb _⟩) (fun c50 a50 h50 => ?_)
  refine chain 51 h50 (by omega) (by omega) (fun e a' ha => row_yes (R := R0) ha (by omega) (by omega) hw rfl (fun _ _ h => h) ⟨by subst e; rfl, hb _⟩) (fun c51 a51 h51 => ?_)
  refine chain 52 h51 (by omega) (by omega) (fun e a' ha => row_yes (R := R0) ha (by omega) (by omega) hw rfl (fun _ _ h => h) ⟨by subst e; rfl, hb _⟩) (fun c52 a52 h52 => ?_)
  refine chain 53 h52 (by omega) (by omega) (fun e a' ha => row_yes (R := R0) ha (by omega) (by omega) hw rfl (fun _ _ h => h) ⟨by subst e; rfl, hb _⟩) (fun c53 a53 h53 => ?_)
  refine chain 54 h53 (by omega) (by omega) (fun e a' ha => row_yes (R := R0) ha (by omega) (by omega) hw rfl (fun _ _ h => h) ⟨by subst e; rfl, hb _⟩) (fun c54 a54 h54 => ?_)
  refine chain 55 h54 (by omega) (by omega) (fun e a' ha => row_yes (R := R0) ha (by omega) (by omega) hw rfl (fun _ _ h => h) ⟨by subst e; rfl, hb _⟩) (fun c55 a55 h55 => ?_)
  refine chain 56 h55 (by omega) (by omega) (fun e a' ha => row_yes (R := R0) ha (by omega) (by omega) hw rfl (fun _ _ h => h) ⟨by subst e; rfl, hb _⟩) (fun c56 a56 h56 => ?_)
  refine chain 57 h56 (by omega) (by omega) (fun e a' ha => row_yes (R := R0) ha (by omega) (by omega) hw rfl (fun _ _ h => h) ⟨by subst e; rfl, hb _⟩) (fun c57 a57 h57 => ?_)
  refine chain 58 h57 (by omega) (by omega) (fun e a' ha => row_yes (R := R0) ha (by omega) (by omega) hw rfl (fun _ _ h => h) ⟨by subst e; rfl, hb _⟩) (fun c58 a58 h58 => ?_)
  refine chain 59 h58 (by omega) (by omega) (fun e a' ha => row_yes (R := R0) ha (by omega) (by omega) hw rfl (fun _ _ h => h) ⟨by subst e; rfl, hb _⟩) (fun c59 a59 h59 => ?_)
  refine chain 60 h59 (by omega) (by omega) (fun e a' ha => row_yes (R := R0) ha (by omega) (by omega) hw rfl (fun _ _ h => h) ⟨by subst e; rfl, hb _⟩) (fun c60 a60 h60 => ?_)
  refine chain 61 h60 (by omega) (by omega) (fun e a' ha => row_yes (R := R0) ha (by omega) (by omega) hw rfl (fun _ _ h => h) ⟨by subst e; rfl, hb _⟩) (fun c61 a61 h61 => ?_)
  refine chain 62 h61 (by omega) (by omega) (fun e a' ha => row_yes (R := R0) ha (by omega) (by omega) hw rfl (fun _ _ h => h) ⟨by subst e; rfl, hb _⟩) (fun c62 a62 h62 => ?_)
  refine chain 63 h62 (by omega) (by omega) (fun e a' ha => row_yes (R := R0) ha (by omega) (by omega) hw rfl (fun _ _ h => h) ⟨by subst e; rfl, hb _⟩) (fun c63 a63 h63 => ?_)
  refine chain 64 h63 (by omega) (by omega) (fun e a' ha => row_yes (R := R0) ha (by omega) (by omega) hw rfl (fun _ _ h => h) ⟨by subst e; rfl, hb _⟩) (fun c64 a64 h64 => ?_)
  refine chain 65 h64 (by omega) (by omega) (fun e a' ha => row_yes (R := R0) ha (by omega) (by omega) hw rfl (fun _ _ h => h) ⟨by subst e; rfl, hb _⟩) (fun c65 a65 h65 => ?_)
  refine chain 66 h65 (by omega) (by omega) (fun e a' ha => row_yes (R := R0) ha (by omega) (by omega) hw rfl (fun _ _ h => h) ⟨by subst e; rfl, hb _⟩) (fun c66 a66 h66 => ?_)
  refine chain 67 h66 (by omega) (by omega) (fun e a' ha => row_yes (R := R0) ha (by omega) (by omega) hw rfl (fun _ _ h => h) ⟨by subst e; rfl, hb _⟩) (fun c67 a67 h67 => ?_)
  refine chain 68 h67 (by omega) (by omega) (fun e a' ha => row_yes (R := R0) ha (by omega) (by omega) hw rfl (fun _ _ h => h) ⟨by subst e; rfl, hb _⟩) (fun c68 a68 h68 => ?_)
  refine chain 69 h68 (by omega) (by omega) (fun e a' ha => row_yes (R := R0) ha (by omega) (by omega) hw rfl (fun _ _ h => h) ⟨by subst e; rfl, hb _⟩) (fun c69 a69 h69 => ?_)
  refine chain 70 h69 (by omega) (by omega) (fun e a' ha => row_yes (R := R0) ha (by omega) (by omega) hw rfl (fun _ _ h => h) ⟨by subst e; rfl, hb _⟩) (fun c70 a70 h70 => ?_)
  refine chain 71 h70 (by omega) (by omega) (fun e a' ha => row_yes (R := R0) ha (by omega) (by omega) hw rfl (fun _ _ h => h) ⟨by subst e; rfl, hb _⟩) (fun c71 a71 h71 => ?_)
  refine chain 72 h71 (by omega) (by omega) (fun e a' ha => row_yes (R := R0) ha (by omega) (by omega) hw rfl (fun _ _ h => h) ⟨by subst e; rfl, hb _⟩) (fun c72 a72 h72 => ?_)
  refine chain 73 h72 (by omega) (by omega) (fun e a' ha => row_yes (R := R0) ha (by omega) (by omega) hw rfl (fun _ _ h => h) ⟨by subst e; rfl, hb _⟩) (fun c73 a73 h73 => ?_)
  refine chain 74 h73 (by omega) (by omega) (fun e a' ha => row_yes (R := R0) ha (by omega) (by omega) hw rfl (fun _ _ h => h) ⟨by subst e; rfl, hb _⟩) (fun c74 a74 h74 => ?_)
  refine chain 75 h74 (by omega) (by omega) (fun e a' ha => row_yes (R := R0) ha (by omega) (by omega) hw rfl (fun _ _ h => h) ⟨by subst e; rfl, hb _⟩) (fun c75 a75 h75 => ?_)
  refine chain 76 h75 (by omega) (by omega) (fun e a' ha => row_yes (R := R0) ha (by omega) (by omega) hw rfl (fun _ _ h => h) ⟨by subst e; rfl, hb _⟩) (fun c76 a76 h76 => ?_)
  refine chain 77 h76 (by omega) (by omega) (fun e a' ha => row_yes (R := R0) ha (by omega) (by omega) hw rfl (fun _ _ h => h) ⟨by subst e; rfl, hb _⟩) (fun c77 a77 h77 => ?_)
  refine chain 78 h77 (by omega) (by omega) (fun e a' ha => row_yes (R := R0) ha (by omega) (by omega) hw rfl (fun _ _ h => h) ⟨by subst e; rfl, hb _⟩) (fun c78 a78 h78 => ?_)
  refine chain 79 h78 (by omega) (by omega) (fun e a' ha => row_yes (R := R0) ha (by omega) (by omega) hw rfl (fun _ _ h => h) ⟨by subst e; rfl, hb _⟩) (fun c79 a79 h79 => ?_)
  refine chain 80 h79 (by omega) (by omega) (fun e a' ha => row_yes (R := R0) ha (by omega) (by omega) hw rfl (fun _ _ h => h) ⟨by subst e; rfl, hb _⟩) (fun c80 a80 h80 => ?_)
  refine chain 81 h80 (by omega) (by omega) (fun e a' ha => row_yes (R := R0) ha (by omega) (by omega) hw rfl (fun _ _ h => h) ⟨by subst e; rfl, hb _⟩) (fun c81 a81 h81 => ?_)
  refine chain 82 h81 (by omega) (by omega) (fun e a' ha => row_yes (R := R0) ha (by omega) (by omega) hw rfl (fun _ _ h => h) ⟨by subst e; rfl, hb _⟩) (fun c82 a82 h82 => ?_)
  refine chain 83 h82 (by omega) (by omega) (fun e a' ha => row_yes (R := R0) ha (by omega) (by omega) hw rfl (fun _ _ h => h) ⟨by subst e; rfl, hb _⟩) (fun c83 a83 h83 => ?_)
  refine chain 84 h83 (by omega) (by omega) (fun e a' ha => row_yes (R := R0) ha (by omega) (by omega) hw rfl (fun _ _ h => h) ⟨by subst e; rfl, hb _⟩) (fun c84 a84 h84 => ?_)
  refine chain 85 h84 (by omega) (by omega) (fun e a' ha => row_yes (R := R0) ha (by omega) (by omega) hw rfl (fun _ _ h => h) ⟨by subst e; rfl, hb _⟩) (fun c85 a85 h85 => ?_)
  refine chain 86 h85 (by omega) (by omega) (fun e a' ha => row_yes (R := R0) ha (by omega) (by omega) hw rfl (fun _ _ h => h) ⟨by subst e; rfl, hb _⟩) (fun c86 a86 h86 => ?_)
  refine chain 87 h86 (by omega) (by omega) (fun e a' ha => row_yes (R := R0) ha (by omega) (by omega) hw rfl (fun _ _ h => h) ⟨by subst e; rfl, hb _⟩) (fun c87 a87 h87 => ?_)
  refine chain 88 h87 (by omega) (by omega) (fun e a' ha => row_yes (R := R0) ha (by omega) (by omega) hw rfl (fun _ _ h => h) ⟨by subst e; rfl, hb _⟩) (fun c88 a88 h88 => ?_)
  refine chain 89 h88 (by omega) (by omega) (fun e a' ha => row_yes (R := R0) ha (by omega) (by omega) hw rfl (fun _ _ h => h) ⟨by subst e; rfl, hb _⟩) (fun c89 a89 h89 => ?_)
  refine chain 90 h89 (by omega) (by omega) (fun e a' ha => row_yes (R := R0) ha (by omega) (by omega) hw rfl (fun _ _ h => h) ⟨by subst e; rfl, hb _⟩) (fun c90 a90 h90 => ?_)
  refine chain 91 h90 (by omega) (by omega) (fun e a' ha => row_yes (R := R0) ha (by omega) (by omega) hw rfl (fun _ _ h => h) ⟨by subst e; rfl, hb _⟩) (fun c91 a91 h91 => ?_)
  refine chain 92 h91 (by omega) (by omega) (fun e a' ha => row_yes (R := R0) ha (by omega) (by omega) hw rfl (fun _ _ h => h) ⟨by subst e; rfl, hb _⟩) (fun c92 a92 h92 => ?_)
  refine chain 93 h92 (by omega) (by omega) (fun e a' ha => row_yes (R := R0) ha (by omega) (by omega) hw rfl (fun _ _ h => h) ⟨by subst e; rfl, hb _⟩) (fun c93 a93 h93 => ?_)
  refine chain 94 h93 (by omega) (by omega) (fun e a' ha => row_yes (R := R0) ha (by omega) (by omega) hw rfl (fun _ _ h => h) ⟨by subst e; rfl, hb _⟩) (fun c94 a94 h94 => ?_)
  refine chain 95 h94 (by omega) (by omega) (fun e a' ha => row_yes (R := R0) ha (by omega) (by omega) hw rfl (fun _ _ h => h) ⟨by subst e; rfl, hb _⟩) (fun c95 a95 h95 => ?_)
  refine chain 96 h95 (by omega) (by omega) (fun e a' ha => row_yes (R := R0) ha (by omega) (by omega) hw rfl (fun _ _ h => h) ⟨by subst e; rfl, hb _⟩) (fun c96 a96 h96 => ?_)
  refine chain 97 h96 (by omega) (by omega) (fun e a' ha => row_yes (R := R0) ha (by omega) (by omega) hw rfl (fun _ _ h => h) ⟨by subst e; rfl, hb _⟩) (fun c97 a97 h97 => ?_)
  refine chain 98 h97 (by omega) (by omega) (fun e a' ha => row_yes (R := R0) ha (by omega) (by omega) hw rfl (fun _ _ h => h) ⟨by subst e; rfl, hb _⟩) (fun c98 a98 h98 => ?_)
  refine chain 99 h98 (by omega) (by omega) (fun e a' ha => row_yes (R := R0) ha (by omega) (by omega) hw rfl (fun _ _ h => h) ⟨by subst e; rfl, hb _⟩) (fun c99 a99 h99 => ?_)
  refine chain 100 h99 (by omega) (by omega) (fun e a' ha => row_yes (R := R0) ha (by omega) (by omega) hw rfl (fun _ _ h => h) ⟨by subst e; rfl, hb _⟩) (fun c100 a100 h100 => ?_)
  refine chain 101 h100 (by omega) (by omega) (fun e a' ha => row_yes (R := R0) ha (by omega) (by omega) hw rfl (fun _ _ h => h) ⟨by subst e; rfl, hb _⟩) (fun c101 a101 h101 => ?_)
  refine chain 102 h101 (by omega) (by omega) (fun e a' ha => row_yes (R := R0) ha (by omega) (by omega) hw rfl (fun _ _ h => h) ⟨by subst e; rfl, hb _⟩) (fun c102 a102 h102 => ?_)
  refine chain 103 h102 (by omega) (by omega) (fun e a' ha => row_yes (R := R0) ha (by omega) (by omega) hw rfl (fun _ _ h => h) ⟨by subst e; rfl, hb _⟩) (fun c103 a103 h103 => ?_)
  refine chain 104 h103 (by omega) (by omega) (fun e a' ha => row_yes (R := R0) ha (by omega) (by omega) hw rfl (fun _ _ h => h) ⟨by subst e; rfl, hb _⟩) (fun c104 a104 h104 => ?_)
  refine chain 105 h104 (by omega) (by omega) (fun e a' ha => row_yes (R := R0) ha (by omega) (by omega) hw rfl (fun _ _ h => h) ⟨by subst e; rfl, hb _⟩) (fun c105 a105 h105 => ?_)
  refine chain 106 h105 (by omega) (by omega) (fun e a' ha => row_yes (R := R0) ha (by omega) (by omega) hw rfl (fun _ _ h => h) ⟨by subst e; rfl, hb _⟩) (fun c106 a106 h106 => ?_)
  refine chain 107 h106 (by omega) (by omega) (fun e a' ha => row_yes (R := R0) ha (by omega) (by omega) hw rfl (fun _ _ h => h) ⟨by subst e; rfl, hb _⟩) (fun c107 a107 h107 => ?_)
  refine chain 108 h107 (by omega) (by omega) (fun e a' ha => row_yes (R := R0) ha (by omega) (by omega) hw rfl (fun _ _ h => h) ⟨by subst e; rfl, hb _⟩) (fun c108 a108 h108 => ?_)
  refine chain 109 h108 (by omega) (by omega) (fun e a' ha => row_yes (R := R0) ha (by omega) (by omega) hw rfl (fun _ _ h => h) ⟨by subst e; rfl, hb _⟩) (fun c109 a109 h109 => ?_)
  refine chain 110 h109 (by omega) (by omega) (fun e a' ha => row_yes (R := R0) ha (by omega) (by omega) hw rfl (fun _ _ h => h) ⟨by subst e; rfl, hb _⟩) (fun c110 a110 h110 => ?_)
  refine chain 111 h110 (by omega) (by omega) (fun e a' ha => row_yes (R := R0) ha (by omega) (by omega) hw rfl (fun _ _ h => h) ⟨by subst e; rfl, hb _⟩) (fun c111 a111 h111 => ?_)
  refine chain 112 h111 (by omega) (by omega) (fun e a' ha => row_yes (R := R0) ha (by omega) (by omega) hw rfl (fun _ _ h => h) ⟨by subst e; rfl, hb _⟩) (fun c112 a112 h112 => ?_)
  refine chain 113 h112 (by omega) (by omega) (fun e a' ha => row_yes (R := R0) ha (by omega) (by omega) hw rfl (fun _ _ h => h) ⟨by subst e; rfl, hb _⟩) (fun c113 a113 h113 => ?_)
  exfalso; omega
end Go.Proofs.YtakdhdaoklcidaaGreatDoor

namespace Go.Proofs.YtakdhdaoklcidaaGreatDoor
open Go.RowKit
set_option linter.unusedVariables false
set_option maxRecDepth 100000
def hasB (c : Int) (s : ByteArray) : Bool := s.data.toList.any fun b => (b.toNat : Int) == c
def noTo (c : Int) (s : ByteArray) (k : Nat) : Prop := ∀ j (h : j < s.size), j < k → ((s[j].toNat : Int) == c) = false
theorem hasB_yes {c : Int} {s : ByteArray} {k : Nat} (h : k < s.size) (hc : ((s[k].toNat : Int) == c) = true) : hasB c s = true := by
  unfold hasB
  rw [List.any_eq_true]
  exact ⟨s[k], by show s.data[k] ∈ s.data.toList; exact Array.getElem_mem_toList _, hc⟩
theorem hasB_no {c : Int} {s : ByteArray} (h : noTo c s s.size) : hasB c s = false := by
  unfold hasB
  rw [List.any_eq_false]
  intro b hb
  obtain ⟨j, hj, e⟩ := List.mem_iff_getElem.1 hb
  have hj' : j < s.size := by simpa using hj
  have := h j hj' hj'
  rw [show s[j] = b from e] at this
  simp [this]
set_option maxHeartbeats 1000000 in
theorem refHas_any (c : Int) (s : ByteArray) (hs : s.size ≤ 100) (w : World) :
    Calls Tryz.prog 61 #[.int .u8 c, .string s] w fun e w' => e = .returned (.bool (hasB c s)) ∧ w = w' := by
  go_enter Tryz.func61, Tryz.ntmps61
  go_wp2
  go_loop [5] (fun i => ∃ k : Nat, k ≤ s.size ∧ i = .int .i64 k ∧ noTo c s k) (fun i => s.size - (intOf i).toNat)
  case atStart => exact ⟨0, Nat.zero_le _, rfl, fun j _ h => absurd h (Nat.not_lt_zero j)⟩
  case round =>
    obtain ⟨k, hk, rfl, hno⟩ := hrel
    have HN := Lib.hid hno
    clear hno
    by_cases hlt : k < s.size
    · cases hc : ((s[k].toNat : Int) == c)
      · have HS : Hid (noTo c s (k + 1)) := Lib.hid fun j hj h => by
          by_cases e : j = k
          · subst e; exact hc
          · exact HN.out j hj (by omega)
        go_wp2
        go_round
        case rel => exact ⟨k + 1, by omega, by go_num, HS.out⟩
        case measure => simp [intOf]; omega
      · have HE := Lib.hid (hasB_yes hlt hc)
        go_wp2
        go_ret
        exact ⟨ret_bool HE.out.symm, rfl⟩
    · obtain rfl : k = s.size := by omega
      have HE := Lib.hid (hasB_no HN.out)
      go_wp2
      go_ret
      exact ⟨ret_bool HE.out.symm, rfl⟩
theorem has_rd_is : ∀ k, k < 15 → hasB (letT k) ⟨#[85, 74, 73, 72, 87, 82, 76, 65, 67, 90, 86]⟩ = (frm k).rd := by decide +kernel
theorem has_rd (k : Nat) (hk : k < 15) (w : World) : Calls Tryz.prog 61 #[.int .u8 (letT k), .string ⟨#[85, 74, 73, 72, 87, 82, 76, 65, 67, 90, 86]⟩] w fun e w' => e = .returned (.bool (frm k).rd) ∧ w = w' := by
  rw [← has_rd_is k hk]; exact refHas_any _ _ (by decide) w
theorem has_a_is : ∀ k, k < 15 → hasB (letT k) ⟨#[73, 72, 87, 66, 83, 70, 82, 76, 65, 67, 86]⟩ = (frm k).a := by decide +kernel
theorem has_a (k : Nat) (hk : k < 15) (w : World) : Calls Tryz.prog 61 #[.int .u8 (letT k), .string ⟨#[73, 72, 87, 66, 83, 70, 82, 76, 65, 67, 86]⟩] w fun e w' => e = .returned (.bool (frm k).a) ∧ w = w' := by
  rw [← has_a_is k hk]; exact refHas_any _ _ (by decide) w
theorem has_b_is : ∀ k, k < 15 → hasB (letT k) ⟨#[66, 83, 70, 82, 65]⟩ = (frm k).b := by decide +kernel
theorem has_b (k : Nat) (hk : k < 15) (w : World) : Calls Tryz.prog 61 #[.int .u8 (letT k), .string ⟨#[66, 83, 70, 82, 65]⟩] w fun e w' => e = .returned (.bool (frm k).b) ∧ w = w' := by
  rw [← has_b_is k hk]; exact refHas_any _ _ (by decide) w
theorem has_csr_is : ∀ k, k < 15 → hasB (letT k) ⟨#[67, 90]⟩ = (frm k).csr := by decide +kernel
theorem has_csr (k : Nat) (hk : k < 15) (w : World) : Calls Tryz.prog 61 #[.int .u8 (letT k), .string ⟨#[67, 90]⟩] w fun e w' => e = .returned (.bool (frm k).csr) ∧ w = w' := by
  rw [← has_csr_is k hk]; exact refHas_any _ _ (by decide) w
theorem has_ord_is : ∀ k, k < 15 → hasB (letT k) ⟨#[76, 65]⟩ = (frm k).ord := by decide +kernel
theorem has_ord (k : Nat) (hk : k < 15) (w : World) : Calls Tryz.prog 61 #[.int .u8 (letT k), .string ⟨#[76, 65]⟩] w fun e w' => e = .returned (.bool (frm k).ord) ∧ w = w' := by
  rw [← has_ord_is k hk]; exact refHas_any _ _ (by decide) w
theorem refForm_0 (w : World) : Calls Tryz.prog 50 #[.int .u8 85] w fun e w' => e = .returned (.int .i64 4) ∧ w = w' := by
  go_enter Tryz.func50, Tryz.ntmps50
  go_wp2
  go_ret
  exact ⟨rfl, rfl⟩
theorem refForm_1 (w : World) : Calls Tryz.prog 50 #[.int .u8 74] w fun e w' => e = .returned (.int .i64 5) ∧ w = w' := by
  go_enter Tryz.func50, Tryz.ntmps50
  go_wp2
  go_ret
  exact ⟨rfl, rfl⟩
theorem refForm_2 (w : World) : Calls Tryz.prog 50 #[.int .u8 73] w fun e w' => e = .returned (.int .i64 1) ∧ w = w' := by
  go_enter Tryz.func50, Tryz.ntmps50
  go_wp2
  go_ret
  exact ⟨rfl, rfl⟩
theorem refForm_3 (w : World) : Calls Tryz.prog 50 #[.int .u8 66] w fun e w' => e = .returned (.int .i64 3) ∧ w = w' := by
  go_enter Tryz.func50, Tryz.ntmps50
  go_wp2
  go_ret
  exact ⟨rfl, rfl⟩
theorem refForm_4 (w : World) : Calls Tryz.prog 50 #[.int .u8 83] w fun e w' => e = .returned (.int .i64 2) ∧ w = w' := by
  go_enter Tryz.func50, Tryz.ntmps50
  go_wp2
  go_ret
  exact ⟨rfl, rfl⟩
theorem refForm_5 (w : World) : Calls Tryz.prog 50 #[.int .u8 72] w fun e w' => e = .returned (.int .i64 6) ∧ w = w' := by
  go_enter Tryz.func50, Tryz.ntmps50
  go_wp2
  go_ret
  exact ⟨rfl, rfl⟩
theorem refForm_6 (w : World) : Calls Tryz.prog 50 #[.int .u8 87] w fun e w' => e = .returned (.int .i64 7) ∧ w = w' := by
  go_enter Tryz.func50, Tryz.ntmps50
  go_wp2
  go_ret
  exact ⟨rfl, rfl⟩
theorem refForm_7 (w : World) : Calls Tryz.prog 50 #[.int .u8 82] w fun e w' => e = .returned (.int .i64 0) ∧ w = w' := by
  go_enter Tryz.func50, Tryz.ntmps50
  go_wp2
  go_ret
  exact ⟨rfl, rfl⟩
theorem refForm_8 (w : World) : Calls Tryz.prog 50 #[.int .u8 76] w fun e w' => e = .returned (.int .i64 0) ∧ w = w' := by
  go_enter Tryz.func50, Tryz.ntmps50
  go_wp2
  go_ret
  exact ⟨rfl, rfl⟩
theorem refForm_9 (w : World) : Calls Tryz.prog 50 #[.int .u8 65] w fun e w' => e = .returned (.int .i64 0) ∧ w = w' := by
  go_enter Tryz.func50, Tryz.ntmps50
  go_wp2
  go_ret
  exact ⟨rfl, rfl⟩
theorem refForm_10 (w : World) : Calls Tryz.prog 50 #[.int .u8 78] w fun e w' => e = .returned (.int .i64 0) ∧ w = w' := by
  go_enter Tryz.func50, Tryz.ntmps50
  go_wp2
  go_ret
  exact ⟨rfl, rfl⟩
theorem refForm_11 (w : World) : Calls Tryz.prog 50 #[.int .u8 70] w fun e w' => e = .returned (.int .i64 0) ∧ w = w' := by
  go_enter Tryz.func50, Tryz.ntmps50
  go_wp2
  go_ret
  exact ⟨rfl, rfl⟩
theorem refForm_12 (w : World) : Calls Tryz.prog 50 #[.int .u8 67] w fun e w' => e = .returned (.int .i64 0) ∧ w = w' := by
  go_enter Tryz.func50, Tryz.ntmps50
  go_wp2
  go_ret
  exact ⟨rfl, rfl⟩
theorem refForm_13 (w : World) : Calls Tryz.prog 50 #[.int .u8 90] w fun e w' => e = .returned (.int .i64 9) ∧ w = w' := by
  go_enter Tryz.func50, Tryz.ntmps50
  go_wp2
  go_ret
  exact ⟨rfl, rfl⟩
theorem refForm_14 (w : World) : Calls Tryz.prog 50 #[.int .u8 86] w fun e w' => e = .returned (.int .i64 0) ∧ w = w' := by
  go_enter Tryz.func50, Tryz.ntmps50
  go_wp2
  go_ret
  exact ⟨rfl, rfl⟩
theorem refForm_any (k : Nat) (hk : k < 15) (w : World) : Calls Tryz.prog 50 #[.int .u8 (letT k)] w fun e w' => e = .returned (.int .i64 (frm k).imm) ∧ w = w' :=
  match k, hk with
  | 0, _ => refForm_0 w
  | 1, _ => refForm_1 w
  | 2, _ => refForm_2 w
  | 3, _ => refForm_3 w
  | 4, _ => refForm_4 w
  | 5, _ => refForm_5 w
  | 6, _ => refForm_6 w
  | 7, _ => refForm_7 w
  | 8, _ => refForm_8 w
  | 9, _ => refForm_9 w
  | 10, _ => refForm_10 w
  | 11, _ => refForm_11 w
  | 12, _ => refForm_12 w
  | 13, _ => refForm_13 w
  | 14, _ => refForm_14 w
  | k + 15, h => absurd h (by omega)
end Go.Proofs.YtakdhdaoklcidaaGreatDoor
