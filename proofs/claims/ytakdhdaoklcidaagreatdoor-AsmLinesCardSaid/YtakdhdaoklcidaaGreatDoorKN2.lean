/- Joined: FdE FdF Ints FdK DcB ShA ShB AsE Only DcC DcD DsD DsE DsF -/
import Derived.Test.YtakdhdaoklcidaaGreatDoorKN1
import Derived.WalkKit
import Derived.ProofKit
import Derived.WalkSmall
import Derived.OpenShut
import Derived.Test.YtakdhdaoklcidaaGreatDoorRows
import Derived.Shelf.Strings.Cut
import Derived.Shelf.Small.Wraps
import Derived.Shelf.Strings.Prefix
import Derived.Shelf.Strings.BuilderK
import Derived.Shelf.Strconv.Itoa4
import Derived.Shelf.Strconv.ErrVarAll
import Derived.Shelf.Strconv.ErrVarParseInt
import Derived.Lib.AppendIntMem
import Derived.Lib.ItoaLen
import Derived.Lib.AtoiErrMem
import Derived.Below
import Derived.Laws.Rows
import Derived.Laws.Tables
import Derived.Laws.StructEq
import Derived.Deep.RegionHeld3
namespace Go.Proofs.YtakdhdaoklcidaaGreatDoor
open Go.RowKit
set_option linter.unusedVariables false
set_option maxRecDepth 100000

theorem find_1 (w : World) :
    Calls Tryz.prog 72 #[.int .i64 1] w fun e w' => e = .returned (.tuple #[.agg #[.int .i64 31, .int .i64 20, .int .i64 0, .int .i64 0, .int .i64 0, .int .i64 0, .int .i64 0, .int .i64 0, .int .i64 1, .int .i64 0, .bool true], .bool true]) ∧ Below w.heap.size w w' := by
  have HB0 : Hid (Below w.heap.size w (w.alloc (.cells #[.int .i64 0, .int .i64 0, .int .i64 0, .int .i64 0, .int .i64 0, .int .i64 0, .int .i64 0, .int .i64 0, .int .i64 0, .int .i64 0, .bool false] 121))) := Lib.hid ((Below.refl _ _).alloc (Nat.le_refl _) _)
  go_enter Tryz.func72, Tryz.ntmps72
  go_wp2_with (first
    | (go_at_call 100; refine (signed_1 (w.heap.size + 1) 0 31 20 _ (World.cell?_alloc_at _ _ _ _ (by simp)) (World.cell?_alloc_at _ _ _ _ (by simp)) (by simp)).mono ?_; rintro e w1 ⟨rfl, hb1⟩; have HZ : Hid (w.heap.size < w1.heap.size) := Lib.hid (by have := hb1.size; simp at this; omega); have HR : Hid (w1.heap[w.heap.size]? = some (.cells #[.int .i64 0, .int .i64 0, .int .i64 0, .int .i64 0, .int .i64 0, .int .i64 0, .int .i64 0, .int .i64 0, .int .i64 0, .int .i64 0, .bool false] 121 (0, 0))) := Lib.hid ((hb1.block w.heap.size (by simp; omega)).trans ((Below.heap_alloc _ _ w.heap.size (by simp)).trans (heap_alloc_new w _))); have HB1 := Lib.hid ((HB0.out.alloc (by simp) _).trans (hb1.mono (by simp; omega))); clear hb1)
    | (refine wpList_store_row rfl _ _ _ rfl w.heap.size _ rfl rfl 121 _ HR.out size42i rfl (by simp [Value.oneCell']) ?_))
  have hlv := run_loadVar_row (P := Tryz.prog) (w1.setRow w.heap.size #[.int .i64 31, .int .i64 20, .int .i64 0, .int .i64 0, .int .i64 0, .int .i64 0, .int .i64 0, .int .i64 0, .int .i64 1, .int .i64 0, .bool true]) w.heap.size 121 121 #[.int .i64 31, .int .i64 20, .int .i64 0, .int .i64 0, .int .i64 0, .int .i64 0, .int .i64 0, .int .i64 0, .int .i64 1, .int .i64 0, .bool true] (0, 0) _ (setRow_heap _ _ _ _ _ _ HR.out) Tryz.underlying121 rfl size42i
  exact bodyPost_ret (v := .tuple #[.agg #[.int .i64 31, .int .i64 20, .int .i64 0, .int .i64 0, .int .i64 0, .int .i64 0, .int .i64 0, .int .i64 0, .int .i64 1, .int .i64 0, .bool true], .bool true]) (by simp [results, Tryz.results72, hlv, asAddr]) rfl ⟨rfl, below_setRow HB1.out (Nat.le_refl _) _⟩

theorem find_2 (w : World) :
    Calls Tryz.prog 72 #[.int .i64 2] w fun e w' => e = .returned (.tuple #[.agg #[.int .i64 31, .int .i64 25, .int .i64 11, .int .i64 7, .int .i64 0, .int .i64 0, .int .i64 0, .int .i64 0, .int .i64 2, .int .i64 0, .bool true], .bool true]) ∧ Below w.heap.size w w' := by
  have HB0 : Hid (Below w.heap.size w (w.alloc (.cells #[.int .i64 0, .int .i64 0, .int .i64 0, .int .i64 0, .int .i64 0, .int .i64 0, .int .i64 0, .int .i64 0, .int .i64 0, .int .i64 0, .bool false] 121))) := Lib.hid ((Below.refl _ _).alloc (Nat.le_refl _) _)
  go_enter Tryz.func72, Tryz.ntmps72
  go_wp2_with (first
    | (go_at_call 100; refine (signed_2 (w.heap.size + 1) 0 31 25 11 7 _ (World.cell?_alloc_at _ _ _ _ (by simp)) (World.cell?_alloc_at _ _ _ _ (by simp)) (World.cell?_alloc_at _ _ _ _ (by simp)) (World.cell?_alloc_at _ _ _ _ (by simp)) (by simp)).mono ?_; rintro e w1 ⟨rfl, hb1⟩; have HZ : Hid (w.heap.size < w1.heap.size) := Lib.hid (by have := hb1.size; simp at this; omega); have HR : Hid (w1.heap[w.heap.size]? = some (.cells #[.int .i64 0, .int .i64 0, .int .i64 0, .int .i64 0, .int .i64 0, .int .i64 0, .int .i64 0, .int .i64 0, .int .i64 0, .int .i64 0, .bool false] 121 (0, 0))) := Lib.hid ((hb1.block w.heap.size (by simp; omega)).trans ((Below.heap_alloc _ _ w.heap.size (by simp)).trans (heap_alloc_new w _))); have HB1 := Lib.hid ((HB0.out.alloc (by simp) _).trans (hb1.mono (by simp; omega))); clear hb1)
    | (refine wpList_store_row rfl _ _ _ rfl w.heap.size _ rfl rfl 121 _ HR.out size42i rfl (by simp [Value.oneCell']) ?_))
  have hlv := run_loadVar_row (P := Tryz.prog) (w1.setRow w.heap.size #[.int .i64 31, .int .i64 25, .int .i64 11, .int .i64 7, .int .i64 0, .int .i64 0, .int .i64 0, .int .i64 0, .int .i64 2, .int .i64 0, .bool true]) w.heap.size 121 121 #[.int .i64 31, .int .i64 25, .int .i64 11, .int .i64 7, .int .i64 0, .int .i64 0, .int .i64 0, .int .i64 0, .int .i64 2, .int .i64 0, .bool true] (0, 0) _ (setRow_heap _ _ _ _ _ _ HR.out) Tryz.underlying121 rfl size42i
  exact bodyPost_ret (v := .tuple #[.agg #[.int .i64 31, .int .i64 25, .int .i64 11, .int .i64 7, .int .i64 0, .int .i64 0, .int .i64 0, .int .i64 0, .int .i64 2, .int .i64 0, .bool true], .bool true]) (by simp [results, Tryz.results72, hlv, asAddr]) rfl ⟨rfl, below_setRow HB1.out (Nat.le_refl _) _⟩

theorem find_3 (w : World) :
    Calls Tryz.prog 72 #[.int .i64 3] w fun e w' => e = .returned (.tuple #[.agg #[.int .i64 31, .int .i64 31, .int .i64 7, .int .i64 7, .int .i64 30, .int .i64 25, .int .i64 11, .int .i64 8, .int .i64 4, .int .i64 1, .bool true], .bool true]) ∧ Below w.heap.size w w' := by
  have HB0 : Hid (Below w.heap.size w (w.alloc (.cells #[.int .i64 0, .int .i64 0, .int .i64 0, .int .i64 0, .int .i64 0, .int .i64 0, .int .i64 0, .int .i64 0, .int .i64 0, .int .i64 0, .bool false] 121))) := Lib.hid ((Below.refl _ _).alloc (Nat.le_refl _) _)
  go_enter Tryz.func72, Tryz.ntmps72
  go_wp2_with (first
    | (go_at_call 100; refine (signed_4 (w.heap.size + 1) 1 31 31 7 7 30 25 11 8 _ (World.cell?_alloc_at _ _ _ _ (by simp)) (World.cell?_alloc_at _ _ _ _ (by simp)) (World.cell?_alloc_at _ _ _ _ (by simp)) (World.cell?_alloc_at _ _ _ _ (by simp)) (World.cell?_alloc_at _ _ _ _ (by simp)) (World.cell?_alloc_at _ _ _ _ (by simp)) (World.cell?_alloc_at _ _ _ _ (by simp)) (World.cell?_alloc_at _ _ _ _ (by simp)) (by simp)).mono ?_; rintro e w1 ⟨rfl, hb1⟩; have HZ : Hid (w.heap.size < w1.heap.size) := Lib.hid (by have := hb1.size; simp at this; omega); have HR : Hid (w1.heap[w.heap.size]? = some (.cells #[.int .i64 0, .int .i64 0, .int .i64 0, .int .i64 0, .int .i64 0, .int .i64 0, .int .i64 0, .int .i64 0, .int .i64 0, .int .i64 0, .bool false] 121 (0, 0))) := Lib.hid ((hb1.block w.heap.size (by simp; omega)).trans ((Below.heap_alloc _ _ w.heap.size (by simp)).trans (heap_alloc_new w _))); have HB1 := Lib.hid ((HB0.out.alloc (by simp) _).trans (hb1.mono (by simp; omega))); clear hb1)
    | (refine wpList_store_row rfl _ _ _ rfl w.heap.size _ rfl rfl 121 _ HR.out size42i rfl (by simp [Value.oneCell']) ?_))
  have hlv := run_loadVar_row (P := Tryz.prog) (w1.setRow w.heap.size #[.int .i64 31, .int .i64 31, .int .i64 7, .int .i64 7, .int .i64 30, .int .i64 25, .int .i64 11, .int .i64 8, .int .i64 4, .int .i64 1, .bool true]) w.heap.size 121 121 #[.int .i64 31, .int .i64 31, .int .i64 7, .int .i64 7, .int .i64 30, .int .i64 25, .int .i64 11, .int .i64 8, .int .i64 4, .int .i64 1, .bool true] (0, 0) _ (setRow_heap _ _ _ _ _ _ HR.out) Tryz.underlying121 rfl size42i
  exact bodyPost_ret (v := .tuple #[.agg #[.int .i64 31, .int .i64 31, .int .i64 7, .int .i64 7, .int .i64 30, .int .i64 25, .int .i64 11, .int .i64 8, .int .i64 4, .int .i64 1, .bool true], .bool true]) (by simp [results, Tryz.results72, hlv, asAddr]) rfl ⟨rfl, below_setRow HB1.out (Nat.le_refl _) _⟩

theorem find_4 (w : World) :
    Calls Tryz.prog 72 #[.int .i64 4] w fun e w' => e = .returned (.tuple #[.agg #[.int .i64 31, .int .i64 12, .int .i64 0, .int .i64 0, .int .i64 0, .int .i64 0, .int .i64 0, .int .i64 0, .int .i64 1, .int .i64 12, .bool true], .bool true]) ∧ Below w.heap.size w w' := by
  have HB0 : Hid (Below w.heap.size w (w.alloc (.cells #[.int .i64 0, .int .i64 0, .int .i64 0, .int .i64 0, .int .i64 0, .int .i64 0, .int .i64 0, .int .i64 0, .int .i64 0, .int .i64 0, .bool false] 121))) := Lib.hid ((Below.refl _ _).alloc (Nat.le_refl _) _)
  go_enter Tryz.func72, Tryz.ntmps72
  go_wp2_with (first
    | (go_at_call 100; refine (signed_1 (w.heap.size + 1) 12 31 12 _ (World.cell?_alloc_at _ _ _ _ (by simp)) (World.cell?_alloc_at _ _ _ _ (by simp)) (by simp)).mono ?_; rintro e w1 ⟨rfl, hb1⟩; have HZ : Hid (w.heap.size < w1.heap.size) := Lib.hid (by have := hb1.size; simp at this; omega); have HR : Hid (w1.heap[w.heap.size]? = some (.cells #[.int .i64 0, .int .i64 0, .int .i64 0, .int .i64 0, .int .i64 0, .int .i64 0, .int .i64 0, .int .i64 0, .int .i64 0, .int .i64 0, .bool false] 121 (0, 0))) := Lib.hid ((hb1.block w.heap.size (by simp; omega)).trans ((Below.heap_alloc _ _ w.heap.size (by simp)).trans (heap_alloc_new w _))); have HB1 := Lib.hid ((HB0.out.alloc (by simp) _).trans (hb1.mono (by simp; omega))); clear hb1)
    | (refine wpList_store_row rfl _ _ _ rfl w.heap.size _ rfl rfl 121 _ HR.out size42i rfl (by simp [Value.oneCell']) ?_))
  have hlv := run_loadVar_row (P := Tryz.prog) (w1.setRow w.heap.size #[.int .i64 31, .int .i64 12, .int .i64 0, .int .i64 0, .int .i64 0, .int .i64 0, .int .i64 0, .int .i64 0, .int .i64 1, .int .i64 12, .bool true]) w.heap.size 121 121 #[.int .i64 31, .int .i64 12, .int .i64 0, .int .i64 0, .int .i64 0, .int .i64 0, .int .i64 0, .int .i64 0, .int .i64 1, .int .i64 12, .bool true] (0, 0) _ (setRow_heap _ _ _ _ _ _ HR.out) Tryz.underlying121 rfl size42i
  exact bodyPost_ret (v := .tuple #[.agg #[.int .i64 31, .int .i64 12, .int .i64 0, .int .i64 0, .int .i64 0, .int .i64 0, .int .i64 0, .int .i64 0, .int .i64 1, .int .i64 12, .bool true], .bool true]) (by simp [results, Tryz.results72, hlv, asAddr]) rfl ⟨rfl, below_setRow HB1.out (Nat.le_refl _) _⟩

theorem find_5 (w : World) :
    Calls Tryz.prog 72 #[.int .i64 5] w fun e w' => e = .returned (.tuple #[.agg #[.int .i64 31, .int .i64 31, .int .i64 19, .int .i64 12, .int .i64 20, .int .i64 20, .int .i64 30, .int .i64 21, .int .i64 4, .int .i64 1, .bool true], .bool true]) ∧ Below w.heap.size w w' := by
  have HB0 : Hid (Below w.heap.size w (w.alloc (.cells #[.int .i64 0, .int .i64 0, .int .i64 0, .int .i64 0, .int .i64 0, .int .i64 0, .int .i64 0, .int .i64 0, .int .i64 0, .int .i64 0, .bool false] 121))) := Lib.hid ((Below.refl _ _).alloc (Nat.le_refl _) _)
  go_enter Tryz.func72, Tryz.ntmps72
  go_wp2_with (first
    | (go_at_call 100; refine (signed_4 (w.heap.size + 1) 1 31 31 19 12 20 20 30 21 _ (World.cell?_alloc_at _ _ _ _ (by simp)) (World.cell?_alloc_at _ _ _ _ (by simp)) (World.cell?_alloc_at _ _ _ _ (by simp)) (World.cell?_alloc_at _ _ _ _ (by simp)) (World.cell?_alloc_at _ _ _ _ (by simp)) (World.cell?_alloc_at _ _ _ _ (by simp)) (World.cell?_alloc_at _ _ _ _ (by simp)) (World.cell?_alloc_at _ _ _ _ (by simp)) (by simp)).mono ?_; rintro e w1 ⟨rfl, hb1⟩; have HZ : Hid (w.heap.size < w1.heap.size) := Lib.hid (by have := hb1.size; simp at this; omega); have HR : Hid (w1.heap[w.heap.size]? = some (.cells #[.int .i64 0, .int .i64 0, .int .i64 0, .int .i64 0, .int .i64 0, .int .i64 0, .int .i64 0, .int .i64 0, .int .i64 0, .int .i64 0, .bool false] 121 (0, 0))) := Lib.hid ((hb1.block w.heap.size (by simp; omega)).trans ((Below.heap_alloc _ _ w.heap.size (by simp)).trans (heap_alloc_new w _))); have HB1 := Lib.hid ((HB0.out.alloc (by simp) _).trans (hb1.mono (by simp; omega))); clear hb1)
    | (refine wpList_store_row rfl _ _ _ rfl w.heap.size _ rfl rfl 121 _ HR.out size42i rfl (by simp [Value.oneCell']) ?_))
  have hlv := run_loadVar_row (P := Tryz.prog) (w1.setRow w.heap.size #[.int .i64 31, .int .i64 31, .int .i64 19, .int .i64 12, .int .i64 20, .int .i64 20, .int .i64 30, .int .i64 21, .int .i64 4, .int .i64 1, .bool true]) w.heap.size 121 121 #[.int .i64 31, .int .i64 31, .int .i64 19, .int .i64 12, .int .i64 20, .int .i64 20, .int .i64 30, .int .i64 21, .int .i64 4, .int .i64 1, .bool true] (0, 0) _ (setRow_heap _ _ _ _ _ _ HR.out) Tryz.underlying121 rfl size42i
  exact bodyPost_ret (v := .tuple #[.agg #[.int .i64 31, .int .i64 31, .int .i64 19, .int .i64 12, .int .i64 20, .int .i64 20, .int .i64 30, .int .i64 21, .int .i64 4, .int .i64 1, .bool true], .bool true]) (by simp [results, Tryz.results72, hlv, asAddr]) rfl ⟨rfl, below_setRow HB1.out (Nat.le_refl _) _⟩

theorem find_6 (w : World) :
    Calls Tryz.prog 72 #[.int .i64 6] w fun e w' => e = .returned (.tuple #[.agg #[.int .i64 25, .int .i64 20, .int .i64 0, .int .i64 0, .int .i64 0, .int .i64 0, .int .i64 0, .int .i64 0, .int .i64 1, .int .i64 0, .bool false], .bool true]) ∧ Below w.heap.size w w' := by
  have HB0 : Hid (Below w.heap.size w (w.alloc (.cells #[.int .i64 0, .int .i64 0, .int .i64 0, .int .i64 0, .int .i64 0, .int .i64 0, .int .i64 0, .int .i64 0, .int .i64 0, .int .i64 0, .bool false] 121))) := Lib.hid ((Below.refl _ _).alloc (Nat.le_refl _) _)
  go_enter Tryz.func72, Tryz.ntmps72
  go_wp2_with (first
    | (go_at_call 101; refine (unsigned_1 (w.heap.size + 1) 25 20 _ (World.cell?_alloc_at _ _ _ _ (by simp)) (World.cell?_alloc_at _ _ _ _ (by simp)) (by simp)).mono ?_; rintro e w1 ⟨rfl, hb1⟩; have HZ : Hid (w.heap.size < w1.heap.size) := Lib.hid (by have := hb1.size; simp at this; omega); have HR : Hid (w1.heap[w.heap.size]? = some (.cells #[.int .i64 0, .int .i64 0, .int .i64 0, .int .i64 0, .int .i64 0, .int .i64 0, .int .i64 0, .int .i64 0, .int .i64 0, .int .i64 0, .bool false] 121 (0, 0))) := Lib.hid ((hb1.block w.heap.size (by simp; omega)).trans ((Below.heap_alloc _ _ w.heap.size (by simp)).trans (heap_alloc_new w _))); have HB1 := Lib.hid ((HB0.out.alloc (by simp) _).trans (hb1.mono (by simp; omega))); clear hb1)
    | (refine wpList_store_row rfl _ _ _ rfl w.heap.size _ rfl rfl 121 _ HR.out size42i rfl (by simp [Value.oneCell']) ?_))
  have hlv := run_loadVar_row (P := Tryz.prog) (w1.setRow w.heap.size #[.int .i64 25, .int .i64 20, .int .i64 0, .int .i64 0, .int .i64 0, .int .i64 0, .int .i64 0, .int .i64 0, .int .i64 1, .int .i64 0, .bool false]) w.heap.size 121 121 #[.int .i64 25, .int .i64 20, .int .i64 0, .int .i64 0, .int .i64 0, .int .i64 0, .int .i64 0, .int .i64 0, .int .i64 1, .int .i64 0, .bool false] (0, 0) _ (setRow_heap _ _ _ _ _ _ HR.out) Tryz.underlying121 rfl size42i
  exact bodyPost_ret (v := .tuple #[.agg #[.int .i64 25, .int .i64 20, .int .i64 0, .int .i64 0, .int .i64 0, .int .i64 0, .int .i64 0, .int .i64 0, .int .i64 1, .int .i64 0, .bool false], .bool true]) (by simp [results, Tryz.results72, hlv, asAddr]) rfl ⟨rfl, below_setRow HB1.out (Nat.le_refl _) _⟩

theorem find_7 (w : World) :
    Calls Tryz.prog 72 #[.int .i64 7] w fun e w' => e = .returned (.tuple #[.agg #[.int .i64 24, .int .i64 20, .int .i64 0, .int .i64 0, .int .i64 0, .int .i64 0, .int .i64 0, .int .i64 0, .int .i64 1, .int .i64 0, .bool false], .bool true]) ∧ Below w.heap.size w w' := by
  have HB0 : Hid (Below w.heap.size w (w.alloc (.cells #[.int .i64 0, .int .i64 0, .int .i64 0, .int .i64 0, .int .i64 0, .int .i64 0, .int .i64 0, .int .i64 0, .int .i64 0, .int .i64 0, .bool false] 121))) := Lib.hid ((Below.refl _ _).alloc (Nat.le_refl _) _)
  go_enter Tryz.func72, Tryz.ntmps72
  go_wp2_with (first
    | (go_at_call 101; refine (unsigned_1 (w.heap.size + 1) 24 20 _ (World.cell?_alloc_at _ _ _ _ (by simp)) (World.cell?_alloc_at _ _ _ _ (by simp)) (by simp)).mono ?_; rintro e w1 ⟨rfl, hb1⟩; have HZ : Hid (w.heap.size < w1.heap.size) := Lib.hid (by have := hb1.size; simp at this; omega); have HR : Hid (w1.heap[w.heap.size]? = some (.cells #[.int .i64 0, .int .i64 0, .int .i64 0, .int .i64 0, .int .i64 0, .int .i64 0, .int .i64 0, .int .i64 0, .int .i64 0, .int .i64 0, .bool false] 121 (0, 0))) := Lib.hid ((hb1.block w.heap.size (by simp; omega)).trans ((Below.heap_alloc _ _ w.heap.size (by simp)).trans (heap_alloc_new w _))); have HB1 := Lib.hid ((HB0.out.alloc (by simp) _).trans (hb1.mono (by simp; omega))); clear hb1)
    | (refine wpList_store_row rfl _ _ _ rfl w.heap.size _ rfl rfl 121 _ HR.out size42i rfl (by simp [Value.oneCell']) ?_))
  have hlv := run_loadVar_row (P := Tryz.prog) (w1.setRow w.heap.size #[.int .i64 24, .int .i64 20, .int .i64 0, .int .i64 0, .int .i64 0, .int .i64 0, .int .i64 0, .int .i64 0, .int .i64 1, .int .i64 0, .bool false]) w.heap.size 121 121 #[.int .i64 24, .int .i64 20, .int .i64 0, .int .i64 0, .int .i64 0, .int .i64 0, .int .i64 0, .int .i64 0, .int .i64 1, .int .i64 0, .bool false] (0, 0) _ (setRow_heap _ _ _ _ _ _ HR.out) Tryz.underlying121 rfl size42i
  exact bodyPost_ret (v := .tuple #[.agg #[.int .i64 24, .int .i64 20, .int .i64 0, .int .i64 0, .int .i64 0, .int .i64 0, .int .i64 0, .int .i64 0, .int .i64 1, .int .i64 0, .bool false], .bool true]) (by simp [results, Tryz.results72, hlv, asAddr]) rfl ⟨rfl, below_setRow HB1.out (Nat.le_refl _) _⟩

theorem find_8 (w : World) :
    Calls Tryz.prog 72 #[.int .i64 8] w fun e w' => e = .returned (.tuple #[.agg #[.int .i64 31, .int .i64 20, .int .i64 0, .int .i64 0, .int .i64 0, .int .i64 0, .int .i64 0, .int .i64 0, .int .i64 1, .int .i64 0, .bool false], .bool true]) ∧ Below w.heap.size w w' := by
  have HB0 : Hid (Below w.heap.size w (w.alloc (.cells #[.int .i64 0, .int .i64 0, .int .i64 0, .int .i64 0, .int .i64 0, .int .i64 0, .int .i64 0, .int .i64 0, .int .i64 0, .int .i64 0, .bool false] 121))) := Lib.hid ((Below.refl _ _).alloc (Nat.le_refl _) _)
  go_enter Tryz.func72, Tryz.ntmps72
  go_wp2_with (first
    | (go_at_call 101; refine (unsigned_1 (w.heap.size + 1) 31 20 _ (World.cell?_alloc_at _ _ _ _ (by simp)) (World.cell?_alloc_at _ _ _ _ (by simp)) (by simp)).mono ?_; rintro e w1 ⟨rfl, hb1⟩; have HZ : Hid (w.heap.size < w1.heap.size) := Lib.hid (by have := hb1.size; simp at this; omega); have HR : Hid (w1.heap[w.heap.size]? = some (.cells #[.int .i64 0, .int .i64 0, .int .i64 0, .int .i64 0, .int .i64 0, .int .i64 0, .int .i64 0, .int .i64 0, .int .i64 0, .int .i64 0, .bool false] 121 (0, 0))) := Lib.hid ((hb1.block w.heap.size (by simp; omega)).trans ((Below.heap_alloc _ _ w.heap.size (by simp)).trans (heap_alloc_new w _))); have HB1 := Lib.hid ((HB0.out.alloc (by simp) _).trans (hb1.mono (by simp; omega))); clear hb1)
    | (refine wpList_store_row rfl _ _ _ rfl w.heap.size _ rfl rfl 121 _ HR.out size42i rfl (by simp [Value.oneCell']) ?_))
  have hlv := run_loadVar_row (P := Tryz.prog) (w1.setRow w.heap.size #[.int .i64 31, .int .i64 20, .int .i64 0, .int .i64 0, .int .i64 0, .int .i64 0, .int .i64 0, .int .i64 0, .int .i64 1, .int .i64 0, .bool false]) w.heap.size 121 121 #[.int .i64 31, .int .i64 20, .int .i64 0, .int .i64 0, .int .i64 0, .int .i64 0, .int .i64 0, .int .i64 0, .int .i64 1, .int .i64 0, .bool false] (0, 0) _ (setRow_heap _ _ _ _ _ _ HR.out) Tryz.underlying121 rfl size42i
  exact bodyPost_ret (v := .tuple #[.agg #[.int .i64 31, .int .i64 20, .int .i64 0, .int .i64 0, .int .i64 0, .int .i64 0, .int .i64 0, .int .i64 0, .int .i64 1, .int .i64 0, .bool false], .bool true]) (by simp [results, Tryz.results72, hlv, asAddr]) rfl ⟨rfl, below_setRow HB1.out (Nat.le_refl _) _⟩

theorem find_9 (w : World) :
    Calls Tryz.prog 72 #[.int .i64 9] w fun e w' => e = .returned (.tuple #[.agg #[.int .i64 19, .int .i64 15, .int .i64 0, .int .i64 0, .int .i64 0, .int .i64 0, .int .i64 0, .int .i64 0, .int .i64 1, .int .i64 0, .bool false], .bool true]) ∧ Below w.heap.size w w' := by
  have HB0 : Hid (Below w.heap.size w (w.alloc (.cells #[.int .i64 0, .int .i64 0, .int .i64 0, .int .i64 0, .int .i64 0, .int .i64 0, .int .i64 0, .int .i64 0, .int .i64 0, .int .i64 0, .bool false] 121))) := Lib.hid ((Below.refl _ _).alloc (Nat.le_refl _) _)
  go_enter Tryz.func72, Tryz.ntmps72
  go_wp2_with (first
    | (go_at_call 101; refine (unsigned_1 (w.heap.size + 1) 19 15 _ (World.cell?_alloc_at _ _ _ _ (by simp)) (World.cell?_alloc_at _ _ _ _ (by simp)) (by simp)).mono ?_; rintro e w1 ⟨rfl, hb1⟩; have HZ : Hid (w.heap.size < w1.heap.size) := Lib.hid (by have := hb1.size; simp at this; omega); have HR : Hid (w1.heap[w.heap.size]? = some (.cells #[.int .i64 0, .int .i64 0, .int .i64 0, .int .i64 0, .int .i64 0, .int .i64 0, .int .i64 0, .int .i64 0, .int .i64 0, .int .i64 0, .bool false] 121 (0, 0))) := Lib.hid ((hb1.block w.heap.size (by simp; omega)).trans ((Below.heap_alloc _ _ w.heap.size (by simp)).trans (heap_alloc_new w _))); have HB1 := Lib.hid ((HB0.out.alloc (by simp) _).trans (hb1.mono (by simp; omega))); clear hb1)
    | (refine wpList_store_row rfl _ _ _ rfl w.heap.size _ rfl rfl 121 _ HR.out size42i rfl (by simp [Value.oneCell']) ?_))
  have hlv := run_loadVar_row (P := Tryz.prog) (w1.setRow w.heap.size #[.int .i64 19, .int .i64 15, .int .i64 0, .int .i64 0, .int .i64 0, .int .i64 0, .int .i64 0, .int .i64 0, .int .i64 1, .int .i64 0, .bool false]) w.heap.size 121 121 #[.int .i64 19, .int .i64 15, .int .i64 0, .int .i64 0, .int .i64 0, .int .i64 0, .int .i64 0, .int .i64 0, .int .i64 1, .int .i64 0, .bool false] (0, 0) _ (setRow_heap _ _ _ _ _ _ HR.out) Tryz.underlying121 rfl size42i
  exact bodyPost_ret (v := .tuple #[.agg #[.int .i64 19, .int .i64 15, .int .i64 0, .int .i64 0, .int .i64 0, .int .i64 0, .int .i64 0, .int .i64 0, .int .i64 1, .int .i64 0, .bool false], .bool true]) (by simp [results, Tryz.results72, hlv, asAddr]) rfl ⟨rfl, below_setRow HB1.out (Nat.le_refl _) _⟩

theorem find_no (f : Int) (h : ¬ (1 ≤ f ∧ f ≤ 9)) (w : World) :
    Calls Tryz.prog 72 #[.int .i64 f] w fun e w' => e = .returned (.tuple #[.agg #[.int .i64 0, .int .i64 0, .int .i64 0, .int .i64 0, .int .i64 0, .int .i64 0, .int .i64 0, .int .i64 0, .int .i64 0, .int .i64 0, .bool false], .bool false]) ∧ Below w.heap.size w w' := by
  have n1 : (f == 1) = false := by rw [beq_eq_false_iff_ne]; omega
  have n2 : (f == 2) = false := by rw [beq_eq_false_iff_ne]; omega
  have n3 : (f == 3) = false := by rw [beq_eq_false_iff_ne]; omega
  have n4 : (f == 4) = false := by rw [beq_eq_false_iff_ne]; omega
  have n5 : (f == 5) = false := by rw [beq_eq_false_iff_ne]; omega
  have n6 : (f == 6) = false := by rw [beq_eq_false_iff_ne]; omega
  have n7 : (f == 7) = false := by rw [beq_eq_false_iff_ne]; omega
  have n8 : (f == 8) = false := by rw [beq_eq_false_iff_ne]; omega
  have n9 : (f == 9) = false := by rw [beq_eq_false_iff_ne]; omega
  clear h
  go_enter Tryz.func72, Tryz.ntmps72
  go_wp2
  exact bodyPost_ret (v := .tuple #[.agg #[.int .i64 0, .int .i64 0, .int .i64 0, .int .i64 0, .int .i64 0, .int .i64 0, .int .i64 0, .int .i64 0, .int .i64 0, .int .i64 0, .bool false], .bool false]) (by simp [results, Tryz.results72, go_sem]) rfl ⟨rfl, (Below.refl _ _).alloc (Nat.le_refl _) _⟩

/-- The numbers that are a form's. -/
def isForm (f : Int) : Prop := 1 ≤ f ∧ f ≤ 9
theorem find_any (k : Nat) (hk : 1 ≤ k ∧ k ≤ 9) (w : World) :
    Calls Tryz.prog 72 #[.int .i64 k] w fun e w' => e = .returned (.tuple #[(formL k).val, .bool true]) ∧ Below w.heap.size w w' := by
  match k, hk with
  | 1, _ => exact find_1 w
  | 2, _ => exact find_2 w
  | 3, _ => exact find_3 w
  | 4, _ => exact find_4 w
  | 5, _ => exact find_5 w
  | 6, _ => exact find_6 w
  | 7, _ => exact find_7 w
  | 8, _ => exact find_8 w
  | 9, _ => exact find_9 w
  | k + 10, hk => omega

end Go.Proofs.YtakdhdaoklcidaaGreatDoor

namespace Go.Proofs.YtakdhdaoklcidaaGreatDoor
open Go.RowKit
set_option linter.unusedVariables false
set_option maxRecDepth 100000

theorem bcell {W w1 : World} (hb : Below W.heap.size W w1) : (∀ b o, b < W.heap.size → w1.cell? ⟨b, o, none⟩ = W.cell? ⟨b, o, none⟩) ∧ (∀ b o, b < W.heap.size → w1.frozen? ⟨b, o, none⟩ = W.frozen? ⟨b, o, none⟩) :=
  ⟨fun b o h => hb.cell (p := ⟨b, o, none⟩) h, fun b o h => hb.frozen (p := ⟨b, o, none⟩) h⟩
theorem find_lit (k : Nat) (hk : 1 ≤ k ∧ k ≤ 9) (w : World) :
    Calls Tryz.prog 72 #[.int .i64 k] w fun e w' => e = .returned (.tuple #[.agg #[.int .i64 ((formL k).h 0), .int .i64 ((formL k).l 0), .int .i64 ((formL k).h 1), .int .i64 ((formL k).l 1), .int .i64 ((formL k).h 2), .int .i64 ((formL k).l 2), .int .i64 ((formL k).h 3), .int .i64 ((formL k).l 3), .int .i64 ((formL k).ps.length), .int .i64 ((formL k).nt), .bool (formL k).sg], .bool true]) ∧ Below w.heap.size w w' := find_any k hk w

set_option maxRecDepth 100000 in
theorem progNumber (k : Nat) (hk : 1 ≤ k ∧ k ≤ 9) (x : Int) (w : World) :
    Calls Tryz.prog 90 #[.int .i64 k, .int .u32 x] w fun e w' => e = .returned (.tuple #[.int .i64 ((formL k).number x), .bool true]) ∧ Below w.heap.size w w' := by
  have HL := Lib.hid (formL_ok k hk)
  have HK := Lib.hid hk
  clear hk
  go_enter Tryz.func90, Tryz.ntmps90
  go_wp2_with (first
    | (go_at_call 72; refine (find_lit k HK.out _).mono ?_; rintro e w1 ⟨rfl, hb1⟩)
    | (go_at_call 102; refine (number_any (formL k) HL.out x _).mono ?_; rintro e w2 ⟨rfl, hb2⟩))
  go_ret2
  exact ⟨rfl, hb1.trans ((((Below.refl w1.heap.size w1).alloc (Nat.le_refl _) _).trans (hb2.mono (by simp))).mono hb1.size)⟩

theorem progNumber_no (f : Int) (hf : ¬ (1 ≤ f ∧ f ≤ 9)) (x : Int) (w : World) :
    Calls Tryz.prog 90 #[.int .i64 f, .int .u32 x] w fun e w' => e = .returned (.tuple #[.int .i64 0, .bool false]) ∧ Below w.heap.size w w' := by
  have HK := Lib.hid hf
  clear hf
  go_enter Tryz.func90, Tryz.ntmps90
  go_wp2_with (go_at_call 72; refine (find_no f HK.out _).mono ?_; rintro e w1 ⟨rfl, hb1⟩)
  go_ret2
  exact ⟨rfl, (hb1.alloc hb1.size _)⟩

set_option maxRecDepth 100000 in
theorem progFits (k : Nat) (hk : 1 ≤ k ∧ k ≤ 9) (n : Int) (w : World) :
    Calls Tryz.prog 39 #[.int .i64 k, .int .i64 n] w fun e w' => e = .returned (.bool ((formL k).number ((formL k).word n) == n)) ∧ Below w.heap.size w w' := by
  have HL := Lib.hid (formL_ok k hk)
  have HK := Lib.hid hk
  clear hk
  go_enter Tryz.func39, Tryz.ntmps39
  go_wp2_with (first
    | (go_at_call 72; refine (find_lit k HK.out _).mono ?_; rintro e w1 ⟨rfl, hb1⟩)
    | (go_at_call 73; refine (fits_any (formL k) HL.out n _).mono ?_; rintro e w2 ⟨rfl, hb2⟩))
  go_ret
  exact ⟨rfl, hb1.trans ((((Below.refl w1.heap.size w1).alloc (Nat.le_refl _) _).trans (hb2.mono (by simp))).mono hb1.size)⟩

theorem fits_is (k : Nat) (hk : 1 ≤ k ∧ k ≤ 9) (n : Int) (q : Bool) (hq : ((formL k).number ((formL k).word n) == n) = q) (w : World) :
    Calls Tryz.prog 73 #[(formL k).val, .int .i64 n] w fun e w' => e = .returned (.bool q) ∧ Below w.heap.size w w' :=
  (fits_any (formL k) (formL_ok k hk) n w).mono fun e w' ⟨he, hw⟩ => ⟨by rw [he, hq], hw⟩
set_option maxRecDepth 100000 in
theorem progPut_yes (k : Nat) (hk : 1 ≤ k ∧ k ≤ 9) (n : Int) (hq : ((formL k).number ((formL k).word n) == n) = true) (w : World) :
    Calls Tryz.prog 87 #[.int .i64 k, .int .i64 n] w fun e w' => e = .returned (.tuple #[.int .u32 ((formL k).word n), .bool true]) ∧ Below w.heap.size w w' := by
  have HL := Lib.hid (formL_ok k hk)
  have HK := Lib.hid hk
  have HF := Lib.hid (fits_is k hk n true hq)
  clear hk hq
  go_enter Tryz.func87, Tryz.ntmps87
  go_wp2_with (first
    | (go_at_call 72; refine (find_lit k HK.out _).mono ?_; rintro e w1 ⟨rfl, hb1⟩)
    | (go_at_call 73; refine (HF.out _).mono ?_; rintro e w2 ⟨rfl, hb2⟩; have HC : Hid (Below w.heap.size w w2) := Lib.hid (hb1.trans ((((Below.refl w1.heap.size w1).alloc (Nat.le_refl _) _).trans (hb2.mono (by simp))).mono hb1.size)); have hcz : w1.heap.size < w2.heap.size := (by have := hb2.size; simp at this; omega); obtain ⟨hc, hf⟩ := bcell hb2)
    | (go_at_call 103; refine (word_any (formL k) HL.out n _).mono ?_; rintro e w3 ⟨rfl, hb3⟩))
  go_ret2
  exact ⟨rfl, HC.out.trans (hb3.mono HC.out.size)⟩
theorem progPut_not (k : Nat) (hk : 1 ≤ k ∧ k ≤ 9) (n : Int) (hq : ((formL k).number ((formL k).word n) == n) = false) (w : World) :
    Calls Tryz.prog 87 #[.int .i64 k, .int .i64 n] w fun e w' => e = .returned (.tuple #[.int .u32 0, .bool false]) ∧ Below w.heap.size w w' := by
  have HK := Lib.hid hk
  have HF := Lib.hid (fits_is k hk n false hq)
  clear hk hq
  go_enter Tryz.func87, Tryz.ntmps87
  go_wp2_with (first
    | (go_at_call 72; refine (find_lit k HK.out _).mono ?_; rintro e w1 ⟨rfl, hb1⟩)
    | (go_at_call 73; refine (HF.out _).mono ?_; rintro e w2 ⟨rfl, hb2⟩))
  go_ret2
  exact ⟨rfl, hb1.trans ((((Below.refl w1.heap.size w1).alloc (Nat.le_refl _) _).trans (hb2.mono (by simp))).mono hb1.size)⟩
theorem progPut_no (f : Int) (hf : ¬ (1 ≤ f ∧ f ≤ 9)) (n : Int) (w : World) :
    Calls Tryz.prog 87 #[.int .i64 f, .int .i64 n] w fun e w' => e = .returned (.tuple #[.int .u32 0, .bool false]) ∧ Below w.heap.size w w' := by
  have HK := Lib.hid hf
  clear hf
  go_enter Tryz.func87, Tryz.ntmps87
  go_wp2_with (go_at_call 72; refine (find_no f HK.out _).mono ?_; rintro e w1 ⟨rfl, hb1⟩)
  go_ret2
  exact ⟨rfl, (hb1.alloc hb1.size _)⟩

end Go.Proofs.YtakdhdaoklcidaaGreatDoor

namespace Go.Proofs.YtakdhdaoklcidaaGreatDoor
open Go.RowKit
set_option linter.unusedVariables false
set_option maxRecDepth 100000

/-- The slice value v reads as the list xs of numbers of kind k, out of blocks below B. -/
def ReadsL (k : IntKind) (B : Nat) (w : World) (v : Value) (xs : List Int) : Prop :=
  ∃ a c, v = .slice a xs.length c ∧ xs.length ≤ maxLen ∧ (xs = [] ∨ ∃ b off, a = some ⟨b, off, none⟩ ∧ b < B ∧ ∀ i, i < xs.length → w.cell? ⟨b, off + i, none⟩ = some (.int k (xs.getD i 0)))

theorem ReadsL.below {k : IntKind} {B B' : Nat} {w w' : World} {v : Value} {xs : List Int} (h : ReadsL k B w v xs) (hb : Below B' w w') (hB : B ≤ B') : ReadsL k B w' v xs := by
  obtain ⟨a, c, hv, hm, h⟩ := h
  refine ⟨a, c, hv, hm, ?_⟩
  rcases h with h | ⟨b, off, ha, hlt, hc⟩
  · exact .inl h
  · exact .inr ⟨b, off, ha, hlt, fun i hi => (hb.cell (p := ⟨b, off + i, none⟩) (Nat.lt_of_lt_of_le hlt hB)).trans (hc i hi)⟩

theorem ReadsL.mono {k : IntKind} {B B' : Nat} {w : World} {v : Value} {xs : List Int} (h : ReadsL k B w v xs) (hB : B ≤ B') : ReadsL k B' w v xs := by
  obtain ⟨a, c, hv, hm, h⟩ := h
  refine ⟨a, c, hv, hm, ?_⟩
  rcases h with h | ⟨b, off, ha, hlt, hc⟩
  · exact .inl h
  · exact .inr ⟨b, off, ha, Nat.lt_of_lt_of_le hlt hB, hc⟩

/-- What the call made by append reads as its list. -/
theorem ReadsL.own {k : IntKind} {base : Nat} {e : TypeId} {w : World} {v : Value} {xs : List Int} (h : w.ownsRow base e 1 v xs.length (xs.map (Value.int k))) : ReadsL k w.heap.size w v xs := by
  rcases h.2 with ⟨hv, h0⟩ | ⟨g, cap, cur, hv, _, hg, hn, hc, _, _⟩
  · have : xs = [] := List.eq_nil_of_length_eq_zero h0
    subst this
    exact ⟨none, 0, hv, Nat.zero_le _, .inl rfl⟩
  · subst hv
    refine ⟨_, cap, rfl, by omega, .inr ⟨g, 0, rfl, (Array.getElem?_eq_some_iff.1 hg).1, fun i hi => ?_⟩⟩
    have := h.cells (g := g) rfl i (.int k (xs.getD i 0)) (by simp [List.getD, hi])
    rwa [add_none] at this

/-- What the frame of a law tells of a slice of integers that came in: nil, or a row of 'cap' cells of which the first 'len' are its elements. -/
def IsRow (k : IntKind) (w : World) (a : Option Addr) (len cap : Nat) (zs : List Int) : Prop :=
  (a = none ∧ len = 0 ∧ cap = 0 ∧ zs = []) ∨
  ∃ x, a = some x ∧ len ≤ cap ∧ cap ≤ maxLen ∧ zs.length = cap ∧ (∀ i, i < zs.length → w.cell? (x.add i) = some (.int k (zs.getD i 0))) ∧ ∀ n ∈ zs, (Lit.int k n).wf = true

/-- An append whose run is known. -/
theorem wp_append_run {P : Program} {o : Oper} {a : Act} {w : World} {K : Act → World → Prop} {Q : Exit → Act → World → Prop} (s x : Operand) (t : TypeId)
    (ho : o.op = .call { callee := .builtin .append, args := #[s, x], argTypes := #[t, t] }) (v v2 v' : Value) (w' : World) (hs : a.eval s = v) (hx : a.eval x = v2)
    (hr : (Builtin.append_ #[t, t] o.type #[v, v2]).run P w = .ok v' w') (h : K (a.put o.dst v') w') : o.wp P a w K Q := by
  unfold Oper.wp execOp
  simp only [ho, resolve, invoke, builtin, Sem.run_bind, Sem.run_pure, Result.andThen_ok, List.map_toArray, List.map_cons, List.map_nil, hs, hx, hr]
  exact h
theorem wpList_append_run {P : Program} {ops : Array Oper} {rest : List Oper} {o : Oper} {a : Act} {w : World} {Q : Exit → Act → World → Prop} (hgd : o.guard = none) (s x : Operand) (t : TypeId)
    (ho : o.op = .call { callee := .builtin .append, args := #[s, x], argTypes := #[t, t] }) (v v2 v' : Value) (w' : World) (hs : a.eval s = v) (hx : a.eval x = v2)
    (hr : (Builtin.append_ #[t, t] o.type #[v, v2]).run P w = .ok v' w') (h : wpList P ops Q rest (a.put o.dst v') w') : wpList P ops Q (o :: rest) a w :=
  wpList_plain hgd fun _ hK => wp_append_run s x t ho v v2 v' w' hs hx hr (hK _ _ h)

end Go.Proofs.YtakdhdaoklcidaaGreatDoor

namespace Go.Proofs.YtakdhdaoklcidaaGreatDoor
open Go.RowKit
set_option linter.unusedVariables false
set_option maxRecDepth 100000

/-! ### of a form, and of none -/
theorem progFits_is (k : Nat) (hk : 1 ≤ k ∧ k ≤ 9) (n : Int) (q : Bool) (hq : ((formL k).number ((formL k).word n) == n) = q) (w : World) :
    Calls Tryz.prog 39 #[.int .i64 k, .int .i64 n] w fun e w' => e = .returned (.bool q) ∧ Below w.heap.size w w' :=
  (progFits k hk n w).mono fun e w' ⟨he, hw⟩ => ⟨by rw [he, hq], hw⟩

end Go.Proofs.YtakdhdaoklcidaaGreatDoor

namespace Go.Proofs.YtakdhdaoklcidaaGreatDoor
open Go.RowKit
set_option linter.unusedVariables false
set_option maxRecDepth 100000

theorem belN {B : Nat} {a w : World} (h : Below B a w) (n : Nat) : Below B a (w.drewN n) := ⟨h.os, h.tape, h.output, h.size, h.block⟩

set_option maxHeartbeats 1000000 in
theorem dfind_any (k : Nat) (h1 : 1 ≤ k) (h2 : k ≤ 113) (w : World) :
    Calls Tryz.prog 53 #[.int .i64 k] w fun e w' => e = .returned (.tuple #[.agg #[.string (nameT k), .int .u32 (matT k), .int .u8 (frmT k)], .bool true]) ∧ Below w.heap.size w w' := by
  by_cases c0 : k ≤ 21
  · have HJ := Lib.hid (jumpOrMove_any k (by omega) c0)
    generalize nameT k = nm at *
    generalize matT k = m at *
    generalize frmT k = fr at *
    have e0 : (k : Int) ≤ 21 := by omega
    have f1 : ¬ (k : Int) < 1 := by omega
    have f2 : ¬ (113 < (k : Int)) := by omega
    clear h1 h2 c0
    go_enter Tryz.func53, Tryz.ntmps53
    go_wp2_with (go_at_call 81; refine (HJ.out _).mono ?_; rintro e w1 ⟨rfl, hb1⟩; have HB : Hid (Below w.heap.size w w1) := Lib.hid (((Below.refl _ _).alloc (Nat.le_refl _) _).trans (hb1.mono (by simp))); have hz : w.heap.size < w1.heap.size := (by have := hb1.size; simp at this; omega); obtain ⟨hc, hf⟩ := bcell hb1; clear hb1)
    exact bodyPost_ret (v := .tuple #[.agg #[.string nm, .int .u32 m, .int .u8 fr], .bool true]) (by simp [results, Tryz.results53, go_sem, hc, hz]) rfl ⟨rfl, ((HB.out.setCell (by simp) _).setCell (by simp) _).setCell (by simp) _⟩
  by_cases c1 : k ≤ 62
  · have HJ := Lib.hid (reckoning_any k (by omega) c1)
    generalize nameT k = nm at *
    generalize matT k = m at *
    generalize frmT k = fr at *
    have d0 : ¬ (k : Int) ≤ 21 := by omega
    have e1 : (k : Int) ≤ 62 := by omega
    have f1 : ¬ (k : Int) < 1 := by omega
    have f2 : ¬ (113 < (k : Int)) := by omega
    clear h1 h2 c0 c1
    go_enter Tryz.func53, Tryz.ntmps53
    go_wp2_with (go_at_call 82; refine (HJ.out _).mono ?_; rintro e w1 ⟨rfl, hb1⟩; have HB : Hid (Below w.heap.size w w1) := Lib.hid (((Below.refl _ _).alloc (Nat.le_refl _) _).trans (hb1.mono (by simp))); have hz : w.heap.size < w1.heap.size := (by have := hb1.size; simp at this; omega); obtain ⟨hc, hf⟩ := bcell hb1; clear hb1)
    exact bodyPost_ret (v := .tuple #[.agg #[.string nm, .int .u32 m, .int .u8 fr], .bool true]) (by simp [results, Tryz.results53, go_sem, hc, hz]) rfl ⟨rfl, ((HB.out.setCell (by simp) _).setCell (by simp) _).setCell (by simp) _⟩
  by_cases c2 : k ≤ 84
  · have HJ := Lib.hid (atomic_any k (by omega) c2)
    generalize nameT k = nm at *
    generalize matT k = m at *
    generalize frmT k = fr at *
    have d0 : ¬ (k : Int) ≤ 21 := by omega
    have d1 : ¬ (k : Int) ≤ 62 := by omega
    have e2 : (k : Int) ≤ 84 := by omega
    have f1 : ¬ (k : Int) < 1 := by omega
    have f2 : ¬ (113 < (k : Int)) := by omega
    clear h1 h2 c0 c1 c2
    go_enter Tryz.func53, Tryz.ntmps53
    go_wp2_with (go_at_call 83; refine (HJ.out _).mono ?_; rintro e w1 ⟨rfl, hb1⟩; have HB : Hid (Below w.heap.size w w1) := Lib.hid (((Below.refl _ _).alloc (Nat.le_refl _) _).trans (hb1.mono (by simp))); have hz : w.heap.size < w1.heap.size := (by have := hb1.size; simp at this; omega); obtain ⟨hc, hf⟩ := bcell hb1; clear hb1)
    exact bodyPost_ret (v := .tuple #[.agg #[.string nm, .int .u32 m, .int .u8 fr], .bool true]) (by simp [results, Tryz.results53, go_sem, hc, hz]) rfl ⟨rfl, ((HB.out.setCell (by simp) _).setCell (by simp) _).setCell (by simp) _⟩
  have HJ := Lib.hid (system_any k (by omega) h2)
  generalize nameT k = nm at *
  generalize matT k = m at *
  generalize frmT k = fr at *
  have d0 : ¬ (k : Int) ≤ 21 := by omega
  have d1 : ¬ (k : Int) ≤ 62 := by omega
  have d2 : ¬ (k : Int) ≤ 84 := by omega
  have f1 : ¬ (k : Int) < 1 := by omega
  have f2 : ¬ (113 < (k : Int)) := by omega
  clear h1 h2 c0 c1 c2
  go_enter Tryz.func53, Tryz.ntmps53
  go_wp2_with (go_at_call 84; refine (HJ.out _).mono ?_; rintro e w1 ⟨rfl, hb1⟩; have HB : Hid (Below w.heap.size w w1) := Lib.hid (((Below.refl _ _).alloc (Nat.le_refl _) _).trans (hb1.mono (by simp))); have hz : w.heap.size < w1.heap.size := (by have := hb1.size; simp at this; omega); obtain ⟨hc, hf⟩ := bcell hb1; clear hb1)
  exact bodyPost_ret (v := .tuple #[.agg #[.string nm, .int .u32 m, .int .u8 fr], .bool true]) (by simp [results, Tryz.results53, go_sem, hc, hz]) rfl ⟨rfl, ((HB.out.setCell (by simp) _).setCell (by simp) _).setCell (by simp) _⟩

theorem dfind_none (op : Int) (h : ¬ (1 ≤ op ∧ op ≤ 113)) (w : World) :
    Calls Tryz.prog 53 #[.int .i64 op] w fun e w' => e = .returned (.tuple #[.agg #[.string ⟨#[]⟩, .int .u32 0, .int .u8 0], .bool false]) ∧ Below w.heap.size w w' := by
  by_cases h1 : op < 1
  · clear h
    go_enter Tryz.func53, Tryz.ntmps53
    go_wp2
    exact bodyPost_ret (v := .tuple #[.agg #[.string ⟨#[]⟩, .int .u32 0, .int .u8 0], .bool false]) (by simp [results, Tryz.results53, go_sem]) rfl ⟨rfl, (Below.refl _ _).alloc (Nat.le_refl _) _⟩
  · have h2 : 113 < op := by omega
    clear h
    go_enter Tryz.func53, Tryz.ntmps53
    go_wp2
    exact bodyPost_ret (v := .tuple #[.agg #[.string ⟨#[]⟩, .int .u32 0, .int .u8 0], .bool false]) (by simp [results, Tryz.results53, go_sem]) rfl ⟨rfl, (Below.refl _ _).alloc (Nat.le_refl _) _⟩

def formsQ : Array Value := #[.int .u32 127, .bool true, .bool false, .bool false, .int .i64 4, .bool false, .bool false, .int .u32 127, .bool true, .bool false, .bool false, .int .i64 5, .bool false, .bool false, .int .u32 28799, .bool true, .bool true, .bool false, .int .i64 1, .bool false, .bool false, .int .u32 28799, .bool false, .bool true, .bool true, .int .i64 3, .bool false, .bool false, .int .u32 28799, .bool false, .bool true, .bool true, .int .i64 2, .bool false, .bool false, .int .u32 4227887231, .bool true, .bool true, .bool false, .int .i64 6, .bool false, .bool false, .int .u32 4261441663, .bool true, .bool true, .bool false, .int .i64 7, .bool false, .bool false, .int .u32 4261441663, .bool true, .bool true, .bool true, .int .i64 0, .bool false, .bool false, .int .u32 4193284223, .bool true, .bool true, .bool false, .int .i64 0, .bool false, .bool true, .int .u32 4160778367, .bool true, .bool true, .bool true, .int .i64 0, .bool false, .bool true, .int .u32 4294967295, .bool false, .bool false, .bool false, .int .i64 0, .bool false, .bool false, .int .u32 4261445631, .bool false, .bool true, .bool true, .int .i64 0, .bool false, .bool false, .int .u32 28799, .bool true, .bool true, .bool false, .int .i64 0, .bool true, .bool false, .int .u32 28799, .bool true, .bool false, .bool false, .int .i64 9, .bool true, .bool false, .int .u32 4293947519, .bool true, .bool true, .bool false, .int .i64 0, .bool false, .bool false]
/-- The program's table of forms stands in memory. -/
def Tab (w : World) : Prop := ∃ t fr, w.heap[0]? = some (.cells formsQ t fr)
theorem Tab.lt {w : World} (h : Tab w) : 0 < w.heap.size := by obtain ⟨t, fr, h⟩ := h; exact (Array.getElem?_eq_some_iff.1 h).1
theorem Tab.below {w w' : World} (h : Tab w) (o : Below w.heap.size w w') : Tab w' := by
  have hl := h.lt
  obtain ⟨t, fr, h⟩ := h; exact ⟨t, fr, (o.block _ hl).trans h⟩
theorem Tab.cell {w : World} (h : Tab w) {o : Nat} {v : Value} (hv : formsQ[o]? = some v) : w.cell? ⟨0, o, none⟩ = some v := by
  obtain ⟨t, fr, h⟩ := h
  rw [cell_of_row w _ o _ t fr h]; exact hv
theorem forms_row : ∀ k, k < 15 → formsQ[k * 7]? = some (.int .u32 (frm k).mask) ∧ formsQ[k * 7 + 1]? = some (.bool (frm k).rd) ∧ formsQ[k * 7 + 2]? = some (.bool (frm k).a) ∧ formsQ[k * 7 + 3]? = some (.bool (frm k).b) ∧ formsQ[k * 7 + 4]? = some (.int .i64 (frm k).imm) ∧ formsQ[k * 7 + 5]? = some (.bool (frm k).csr) ∧ formsQ[k * 7 + 6]? = some (.bool (frm k).ord)
  | 0, _ => ⟨rfl, rfl, rfl, rfl, rfl, rfl, rfl⟩
  | 1, _ => ⟨rfl, rfl, rfl, rfl, rfl, rfl, rfl⟩
  | 2, _ => ⟨rfl, rfl, rfl, rfl, rfl, rfl, rfl⟩
  | 3, _ => ⟨rfl, rfl, rfl, rfl, rfl, rfl, rfl⟩
  | 4, _ => ⟨rfl, rfl, rfl, rfl, rfl, rfl, rfl⟩
  | 5, _ => ⟨rfl, rfl, rfl, rfl, rfl, rfl, rfl⟩
  | 6, _ => ⟨rfl, rfl, rfl, rfl, rfl, rfl, rfl⟩
  | 7, _ => ⟨rfl, rfl, rfl, rfl, rfl, rfl, rfl⟩
  | 8, _ => ⟨rfl, rfl, rfl, rfl, rfl, rfl, rfl⟩
  | 9, _ => ⟨rfl, rfl, rfl, rfl, rfl, rfl, rfl⟩
  | 10, _ => ⟨rfl, rfl, rfl, rfl, rfl, rfl, rfl⟩
  | 11, _ => ⟨rfl, rfl, rfl, rfl, rfl, rfl, rfl⟩
  | 12, _ => ⟨rfl, rfl, rfl, rfl, rfl, rfl, rfl⟩
  | 13, _ => ⟨rfl, rfl, rfl, rfl, rfl, rfl, rfl⟩
  | 14, _ => ⟨rfl, rfl, rfl, rfl, rfl, rfl, rfl⟩
  | k + 15, h => absurd h (by omega)

theorem register_any (x : Int) (s : Int) (h0 : 0 ≤ s) (h1 : s + 4 ≤ 31) (w : World) :
    Calls Tryz.prog 88 #[.int .u32 x, .int .i64 s] w fun e w' => e = .returned (.int .i64 (fldZ x (s + 4) s)) ∧ w = w' := by
  have b := fldZ_in32 x (s + 4) s
  unfold In32 at b
  obtain ⟨b1, b2⟩ := b
  have HF := Lib.hid fun w => field_any x (s + 4) s w
  generalize fldZ x (s + 4) s = y at *
  go_enter Tryz.func88, Tryz.ntmps88
  go_wp2_with (go_at_call 89; refine (HF.out _).mono ?_; rintro e w3 ⟨rfl, rfl⟩)
  go_ret
  exact ⟨rfl, rfl⟩

theorem put_any (n : Int) (s : Nat) (h1 : s + 4 ≤ 31) (w : World) :
    Calls Tryz.prog 85 #[.int .i64 n, .int .i64 s] w fun e w' => e = .returned (.int .u32 (put5 n s)) ∧ w = w' := by
  have hs : (s : Int) < 64 := by omega
  have HF := Lib.hid fun w => field_any (IntKind.u32.wrap n) 4 0 w
  have HP : Hid (put5 n s = IntKind.u32.wrap (fldZ (IntKind.u32.wrap n) 4 0 * 2 ^ s)) := Lib.hid rfl
  generalize fldZ (IntKind.u32.wrap n) 4 0 = y at *
  go_enter Tryz.func85, Tryz.ntmps85
  go_wp2_with (go_at_call 89; refine (HF.out _).mono ?_; rintro e w3 ⟨rfl, rfl⟩)
  go_ret
  exact ⟨ret_int HP.out.symm, rfl⟩

theorem mark_any (b : Bool) (s : Nat) (h1 : s ≤ 31) (w : World) :
    Calls Tryz.prog 86 #[.bool b, .int .i64 s] w fun e w' => e = .returned (.int .u32 (markZ b s)) ∧ w = w' := by
  cases b
  · go_enter Tryz.func86, Tryz.ntmps86
    go_wp2
    go_ret
    exact ⟨rfl, rfl⟩
  · have h2 : (2 : Int) ^ s % 4294967296 = 2 ^ s := by
      have a := two_pow_pos s
      have b : (2 : Int) ^ s ≤ 2 ^ 31 := by exact_mod_cast Nat.pow_le_pow_right (by omega) h1
      have c : (2 : Int) ^ 31 = 2147483648 := rfl
      omega
    have HE : Hid (IntKind.u32.wrap (2 ^ s) = 2 ^ s) := Lib.hid (by rw [wrap32, h2])
    clear h2
    have hs : (s : Int) < 64 := by omega
    go_enter Tryz.func86, Tryz.ntmps86
    go_wp2
    go_ret
    exact ⟨ret_int HE.out, rfl⟩

end Go.Proofs.YtakdhdaoklcidaaGreatDoor

namespace Go.Proofs.YtakdhdaoklcidaaGreatDoor
open Go.Shelf
set_option linter.unusedVariables false
set_option maxRecDepth 100000

def cutLays_ren : Go.Shelf.Ren := ⟨fun | 145 => 34 | 220 => 62 | 219 => 94 | 217 => 114 | 225 => 115 | 224 => 116 | 267 => 117 | 266 => 145 | 314 => 146 | n => n, fun | 9 => 9 | 4 => 4 | 59 => 62 | 3 => 3 | 5 => 5 | 46 => 75 | 146 => 192 | 51 => 43 | n => n, fun | 1 => 2 | n => n⟩
theorem cutLays : Go.Proofs.Lays.n145 Tryz.prog cutLays_ren where
  mixed := by kernel_rfl
  f145 := Tryz.func34.trans (congrArg some (by kernel_rfl))
  f217 := Tryz.func114.trans (congrArg some (by kernel_rfl))
  f219 := Tryz.func94.trans (congrArg some (by kernel_rfl))
  f220 := Tryz.func62.trans (congrArg some (by kernel_rfl))
  f224 := Tryz.func116.trans (congrArg some (by kernel_rfl))
  f225 := Tryz.func115.trans (congrArg some (by kernel_rfl))
  f266 := Tryz.func145.trans (congrArg some (by kernel_rfl))
  f267 := Tryz.func117.trans (congrArg some (by kernel_rfl))
  f314 := Tryz.func146.trans (congrArg some (by kernel_rfl))
  t3 := Tryz.underlying3
  a3 := Tryz.isAgg3
  z3 := Tryz.sizeOf3
  v3 := Tryz.zeroValue3
  t4 := Tryz.underlying4
  a4 := Tryz.isAgg4
  z4 := Tryz.sizeOf4
  v4 := Tryz.zeroValue4
  t5 := Tryz.underlying5
  a5 := Tryz.isAgg5
  z5 := Tryz.sizeOf5
  v5 := Tryz.zeroValue5
  t9 := Tryz.underlying9
  a9 := Tryz.isAgg9
  z9 := Tryz.sizeOf9
  v9 := Tryz.zeroValue9
  t46 := Tryz.underlying75
  a46 := Tryz.isAgg75
  z46 := Tryz.sizeOf75
  v46 := Tryz.zeroValue75
  t51 := Tryz.underlying43
  a51 := Tryz.isAgg43
  z51 := Tryz.sizeOf43
  v51 := Tryz.zeroValue43
  t59 := Tryz.underlying62
  a59 := Tryz.isAgg62
  z59 := Tryz.sizeOf62
  v59 := Tryz.zeroValue62
  t146 := Tryz.underlying192
  a146 := Tryz.isAgg192
  z146 := Tryz.sizeOf192
  v146 := Tryz.zeroValue192
  g1 := by kernel_rfl

def sufLays_ren : Go.Shelf.Ren := ⟨fun | 104 => 69 | 211 => 99 | 207 => 124 | n => n, fun | 9 => 9 | 4 => 4 | 24 => 114 | 3 => 3 | n => n, fun | n => n⟩
theorem sufLays : Go.Proofs.Lays.n104 Tryz.prog sufLays_ren where
  mixed := by kernel_rfl
  f104 := Tryz.func69.trans (congrArg some (by kernel_rfl))
  f207 := Tryz.func124.trans (congrArg some (by kernel_rfl))
  f211 := Tryz.func99.trans (congrArg some (by kernel_rfl))
  t3 := Tryz.underlying3
  a3 := Tryz.isAgg3
  z3 := Tryz.sizeOf3
  v3 := Tryz.zeroValue3
  t4 := Tryz.underlying4
  a4 := Tryz.isAgg4
  z4 := Tryz.sizeOf4
  v4 := Tryz.zeroValue4
  t9 := Tryz.underlying9
  a9 := Tryz.isAgg9
  z9 := Tryz.sizeOf9
  v9 := Tryz.zeroValue9
  t24 := Tryz.underlying114
  a24 := Tryz.isAgg114
  z24 := Tryz.sizeOf114
  v24 := Tryz.zeroValue114

def preLays_ren : Go.Shelf.Ren := ⟨fun | 101 => 66 | 208 => 97 | 206 => 122 | n => n, fun | 9 => 9 | 4 => 4 | 3 => 3 | n => n, fun | n => n⟩
theorem preLays : Go.Proofs.Lays.n101 Tryz.prog preLays_ren where
  mixed := by kernel_rfl
  f101 := Tryz.func66.trans (congrArg some (by kernel_rfl))
  f206 := Tryz.func122.trans (congrArg some (by kernel_rfl))
  f208 := Tryz.func97.trans (congrArg some (by kernel_rfl))
  t3 := Tryz.underlying3
  a3 := Tryz.isAgg3
  z3 := Tryz.sizeOf3
  v3 := Tryz.zeroValue3
  t4 := Tryz.underlying4
  a4 := Tryz.isAgg4
  z4 := Tryz.sizeOf4
  v4 := Tryz.zeroValue4
  t9 := Tryz.underlying9
  a9 := Tryz.isAgg9
  z9 := Tryz.sizeOf9
  v9 := Tryz.zeroValue9

def bstrLays_ren : Go.Shelf.Ren := ⟨fun | 169 => 58 | n => n, fun | 70 => 101 | 9 => 9 | 0 => 0 | 72 => 103 | 37 => 48 | 127 => 146 | 3 => 3 | 5 => 5 | n => n, fun | n => n⟩
theorem bstrLays : Go.Proofs.Lays.n169 Tryz.prog bstrLays_ren where
  mixed := by kernel_rfl
  f169 := Tryz.func58.trans (congrArg some (by kernel_rfl))
  t0 := Tryz.underlying0
  a0 := Tryz.isAgg0
  z0 := Tryz.sizeOf0
  v0 := Tryz.zeroValue0
  t3 := Tryz.underlying3
  a3 := Tryz.isAgg3
  z3 := Tryz.sizeOf3
  v3 := Tryz.zeroValue3
  t9 := Tryz.underlying9
  a9 := Tryz.isAgg9
  z9 := Tryz.sizeOf9
  v9 := Tryz.zeroValue9
  t37 := Tryz.underlying48
  a37 := Tryz.isAgg48
  z37 := Tryz.sizeOf48
  v37 := Tryz.zeroValue48
  t70 := Tryz.underlying101
  a70 := Tryz.isAgg101
  z70 := Tryz.sizeOf101
  v70 := Tryz.zeroValue101
  t72 := Tryz.underlying103
  a72 := Tryz.isAgg103
  z72 := Tryz.sizeOf103
  v72 := Tryz.zeroValue103
  t127 := Tryz.underlying146
  a127 := Tryz.isAgg146
  z127 := Tryz.sizeOf146
  v127 := Tryz.zeroValue146

end Go.Proofs.YtakdhdaoklcidaaGreatDoor

namespace Go.Proofs.YtakdhdaoklcidaaGreatDoor
open Go.Shelf
set_option linter.unusedVariables false
set_option maxRecDepth 100000

def itoaLays_ren : Go.Shelf.Ren := ⟨fun | 171 => 59 | 243 => 92 | 246 => 93 | 283 => 110 | 284 => 111 | 285 => 112 | 286 => 113 | 129 => 141 | 317 => 140 | 318 => 142 | 319 => 143 | 320 => 144 | 337 => 160 | 338 => 41 | n => n, fun | 3 => 3 | 9 => 9 | 2 => 2 | 4 => 4 | 171 => 162 | 0 => 0 | 53 => 36 | 37 => 48 | 5 => 5 | 173 => 164 | 212 => 189 | 51 => 43 | 20 => 20 | 213 => 190 | 46 => 75 | 232 => 207 | 233 => 125 | n => n, fun | 17 => 3 | 18 => 6 | 19 => 1 | n => n⟩
theorem itoaLays : Go.Proofs.LaysM.n171 Tryz.prog itoaLays_ren where
  mixed := by kernel_rfl
  f129 := Tryz.func141.trans (congrArg some (by kernel_rfl))
  f171 := Tryz.func59.trans (congrArg some (by kernel_rfl))
  f243 := Tryz.func92.trans (congrArg some (by kernel_rfl))
  f246 := Tryz.func93.trans (congrArg some (by kernel_rfl))
  f283 := Tryz.func110.trans (congrArg some (by kernel_rfl))
  f284 := Tryz.func111.trans (congrArg some (by kernel_rfl))
  f285 := Tryz.func112.trans (congrArg some (by kernel_rfl))
  f286 := Tryz.func113.trans (congrArg some (by kernel_rfl))
  f317 := Tryz.func140.trans (congrArg some (by kernel_rfl))
  f318 := Tryz.func142.trans (congrArg some (by kernel_rfl))
  f319 := Tryz.func143.trans (congrArg some (by kernel_rfl))
  f320 := Tryz.func144.trans (congrArg some (by kernel_rfl))
  f337 := Tryz.func160.trans (congrArg some (by kernel_rfl))
  f338 := Tryz.func41.trans (congrArg some (by kernel_rfl))
  t0 := Tryz.underlying0
  a0 := Tryz.isAgg0
  z0 := Tryz.sizeOf0
  v0 := Tryz.zeroValue0
  t2 := Tryz.underlying2
  a2 := Tryz.isAgg2
  z2 := Tryz.sizeOf2
  v2 := Tryz.zeroValue2
  t3 := Tryz.underlying3
  a3 := Tryz.isAgg3
  z3 := Tryz.sizeOf3
  v3 := Tryz.zeroValue3
  t4 := Tryz.underlying4
  a4 := Tryz.isAgg4
  z4 := Tryz.sizeOf4
  v4 := Tryz.zeroValue4
  t5 := Tryz.underlying5
  a5 := Tryz.isAgg5
  z5 := Tryz.sizeOf5
  v5 := Tryz.zeroValue5
  t9 := Tryz.underlying9
  a9 := Tryz.isAgg9
  z9 := Tryz.sizeOf9
  v9 := Tryz.zeroValue9
  t20 := Tryz.underlying20
  a20 := Tryz.isAgg20
  z20 := Tryz.sizeOf20
  v20 := Tryz.zeroValue20
  t37 := Tryz.underlying48
  a37 := Tryz.isAgg48
  z37 := Tryz.sizeOf48
  v37 := Tryz.zeroValue48
  t46 := Tryz.underlying75
  a46 := Tryz.isAgg75
  z46 := Tryz.sizeOf75
  v46 := Tryz.zeroValue75
  t51 := Tryz.underlying43
  a51 := Tryz.isAgg43
  z51 := Tryz.sizeOf43
  v51 := Tryz.zeroValue43
  t53 := Tryz.underlying36
  a53 := Tryz.isAgg36
  z53 := Tryz.sizeOf36
  v53 := Tryz.zeroValue36
  t171 := Tryz.underlying162
  a171 := Tryz.isAgg162
  z171 := Tryz.sizeOf162
  v171 := Tryz.zeroValue162
  t173 := Tryz.underlying164
  a173 := Tryz.isAgg164
  z173 := Tryz.sizeOf164
  v173 := Tryz.zeroValue164
  t212 := Tryz.underlying189
  a212 := Tryz.isAgg189
  z212 := Tryz.sizeOf189
  v212 := Tryz.zeroValue189
  t213 := Tryz.underlying190
  a213 := Tryz.isAgg190
  z213 := Tryz.sizeOf190
  t232 := Tryz.underlying207
  a232 := Tryz.isAgg207
  z232 := Tryz.sizeOf207
  v232 := Tryz.zeroValue207
  t233 := Tryz.underlying125
  a233 := Tryz.isAgg125
  z233 := Tryz.sizeOf125
  v233 := Tryz.zeroValue125
  g17 := by kernel_rfl
  g18 := by kernel_rfl
  g19 := by kernel_rfl
  i0 := by kernel_rfl
  i2 := by kernel_rfl
  i3 := by kernel_rfl
  i4 := by kernel_rfl
  i5 := by kernel_rfl
  i9 := by kernel_rfl
  i20 := by kernel_rfl
  i37 := by kernel_rfl
  i46 := by kernel_rfl
  i51 := by kernel_rfl
  i53 := by kernel_rfl
  i171 := by kernel_rfl
  i173 := by kernel_rfl
  i212 := by kernel_rfl
  i232 := by kernel_rfl
  i233 := by kernel_rfl
  m17 := by kernel_rfl
  m18 := by kernel_rfl
  m19 := by kernel_rfl

def fmtLays_ren : Go.Shelf.Ren := ⟨fun | 173 => 60 | 246 => 93 | 283 => 110 | 284 => 111 | 285 => 112 | 286 => 113 | 129 => 141 | 317 => 140 | 318 => 142 | 319 => 143 | 320 => 144 | 337 => 160 | 338 => 41 | n => n, fun | 2 => 2 | 3 => 3 | 9 => 9 | 4 => 4 | 171 => 162 | 0 => 0 | 53 => 36 | 37 => 48 | 5 => 5 | 173 => 164 | 212 => 189 | 51 => 43 | 20 => 20 | 213 => 190 | 46 => 75 | 232 => 207 | 233 => 125 | n => n, fun | 17 => 3 | 18 => 6 | 19 => 1 | n => n⟩
theorem fmtLays : Go.Proofs.LaysM.n173 Tryz.prog fmtLays_ren where
  mixed := by kernel_rfl
  f129 := Tryz.func141.trans (congrArg some (by kernel_rfl))
  f173 := Tryz.func60.trans (congrArg some (by kernel_rfl))
  f246 := Tryz.func93.trans (congrArg some (by kernel_rfl))
  f283 := Tryz.func110.trans (congrArg some (by kernel_rfl))
  f284 := Tryz.func111.trans (congrArg some (by kernel_rfl))
  f285 := Tryz.func112.trans (congrArg some (by kernel_rfl))
  f286 := Tryz.func113.trans (congrArg some (by kernel_rfl))
  f317 := Tryz.func140.trans (congrArg some (by kernel_rfl))
  f318 := Tryz.func142.trans (congrArg some (by kernel_rfl))
  f319 := Tryz.func143.trans (congrArg some (by kernel_rfl))
  f320 := Tryz.func144.trans (congrArg some (by kernel_rfl))
  f337 := Tryz.func160.trans (congrArg some (by kernel_rfl))
  f338 := Tryz.func41.trans (congrArg some (by kernel_rfl))
  t0 := Tryz.underlying0
  a0 := Tryz.isAgg0
  z0 := Tryz.sizeOf0
  v0 := Tryz.zeroValue0
  t2 := Tryz.underlying2
  a2 := Tryz.isAgg2
  z2 := Tryz.sizeOf2
  v2 := Tryz.zeroValue2
  t3 := Tryz.underlying3
  a3 := Tryz.isAgg3
  z3 := Tryz.sizeOf3
  v3 := Tryz.zeroValue3
  t4 := Tryz.underlying4
  a4 := Tryz.isAgg4
  z4 := Tryz.sizeOf4
  v4 := Tryz.zeroValue4
  t5 := Tryz.underlying5
  a5 := Tryz.isAgg5
  z5 := Tryz.sizeOf5
  v5 := Tryz.zeroValue5
  t9 := Tryz.underlying9
  a9 := Tryz.isAgg9
  z9 := Tryz.sizeOf9
  v9 := Tryz.zeroValue9
  t20 := Tryz.underlying20
  a20 := Tryz.isAgg20
  z20 := Tryz.sizeOf20
  v20 := Tryz.zeroValue20
  t37 := Tryz.underlying48
  a37 := Tryz.isAgg48
  z37 := Tryz.sizeOf48
  v37 := Tryz.zeroValue48
  t46 := Tryz.underlying75
  a46 := Tryz.isAgg75
  z46 := Tryz.sizeOf75
  v46 := Tryz.zeroValue75
  t51 := Tryz.underlying43
  a51 := Tryz.isAgg43
  z51 := Tryz.sizeOf43
  v51 := Tryz.zeroValue43
  t53 := Tryz.underlying36
  a53 := Tryz.isAgg36
  z53 := Tryz.sizeOf36
  v53 := Tryz.zeroValue36
  t171 := Tryz.underlying162
  a171 := Tryz.isAgg162
  z171 := Tryz.sizeOf162
  v171 := Tryz.zeroValue162
  t173 := Tryz.underlying164
  a173 := Tryz.isAgg164
  z173 := Tryz.sizeOf164
  v173 := Tryz.zeroValue164
  t212 := Tryz.underlying189
  a212 := Tryz.isAgg189
  z212 := Tryz.sizeOf189
  v212 := Tryz.zeroValue189
  t213 := Tryz.underlying190
  a213 := Tryz.isAgg190
  z213 := Tryz.sizeOf190
  t232 := Tryz.underlying207
  a232 := Tryz.isAgg207
  z232 := Tryz.sizeOf207
  v232 := Tryz.zeroValue207
  t233 := Tryz.underlying125
  a233 := Tryz.isAgg125
  z233 := Tryz.sizeOf125
  v233 := Tryz.zeroValue125
  g17 := by kernel_rfl
  g18 := by kernel_rfl
  g19 := by kernel_rfl
  i0 := by kernel_rfl
  i2 := by kernel_rfl
  i3 := by kernel_rfl
  i4 := by kernel_rfl
  i5 := by kernel_rfl
  i9 := by kernel_rfl
  i20 := by kernel_rfl
  i37 := by kernel_rfl
  i46 := by kernel_rfl
  i51 := by kernel_rfl
  i53 := by kernel_rfl
  i171 := by kernel_rfl
  i173 := by kernel_rfl
  i212 := by kernel_rfl
  i232 := by kernel_rfl
  i233 := by kernel_rfl
  m17 := by kernel_rfl
  m18 := by kernel_rfl
  m19 := by kernel_rfl

def atoiLays_ren : Go.Shelf.Ren := ⟨fun | 172 => 65 | 244 => 95 | 245 => 96 | 247 => 98 | 279 => 118 | 280 => 119 | 281 => 120 | 282 => 121 | 287 => 123 | 316 => 147 | 171 => 59 | 205 => 148 | 321 => 149 | 322 => 150 | 243 => 92 | 246 => 93 | 283 => 110 | 284 => 111 | 285 => 112 | 286 => 113 | 129 => 141 | 317 => 140 | 318 => 142 | 319 => 143 | 320 => 144 | 337 => 160 | 338 => 41 | n => n, fun | 9 => 9 | 3 => 3 | 75 => 105 | 76 => 106 | 4 => 4 | 5 => 5 | 167 => 168 | 37 => 48 | 0 => 0 | 85 => 112 | 2 => 2 | 168 => 169 | 53 => 36 | 175 => 173 | 46 => 75 | 210 => 196 | 127 => 146 | 145 => 205 | 143 => 203 | 21 => 21 | 171 => 162 | 173 => 164 | 212 => 189 | 51 => 43 | 20 => 20 | 213 => 190 | 232 => 207 | 233 => 125 | 80 => 108 | n => n, fun | 15 => 4 | 16 => 5 | 17 => 3 | 18 => 6 | 19 => 1 | n => n⟩
theorem atoiLays : Go.Proofs.LaysC.n172 Tryz.prog atoiLays_ren where
  mixed := by kernel_rfl
  f129 := Tryz.func141.trans (congrArg some (by kernel_rfl))
  f171 := Tryz.func59.trans (congrArg some (by kernel_rfl))
  f172 := Tryz.func65.trans (congrArg some (by kernel_rfl))
  f205 := Tryz.func148.trans (congrArg some (by kernel_rfl))
  f243 := Tryz.func92.trans (congrArg some (by kernel_rfl))
  f244 := Tryz.func95.trans (congrArg some (by kernel_rfl))
  f245 := Tryz.func96.trans (congrArg some (by kernel_rfl))
  f246 := Tryz.func93.trans (congrArg some (by kernel_rfl))
  f247 := Tryz.func98.trans (congrArg some (by kernel_rfl))
  f279 := Tryz.func118.trans (congrArg some (by kernel_rfl))
  f280 := Tryz.func119.trans (congrArg some (by kernel_rfl))
  f281 := Tryz.func120.trans (congrArg some (by kernel_rfl))
  f282 := Tryz.func121.trans (congrArg some (by kernel_rfl))
  f283 := Tryz.func110.trans (congrArg some (by kernel_rfl))
  f284 := Tryz.func111.trans (congrArg some (by kernel_rfl))
  f285 := Tryz.func112.trans (congrArg some (by kernel_rfl))
  f286 := Tryz.func113.trans (congrArg some (by kernel_rfl))
  f287 := Tryz.func123.trans (congrArg some (by kernel_rfl))
  f316 := Tryz.func147.trans (congrArg some (by kernel_rfl))
  f317 := Tryz.func140.trans (congrArg some (by kernel_rfl))
  f318 := Tryz.func142.trans (congrArg some (by kernel_rfl))
  f319 := Tryz.func143.trans (congrArg some (by kernel_rfl))
  f320 := Tryz.func144.trans (congrArg some (by kernel_rfl))
  f321 := Tryz.func149.trans (congrArg some (by kernel_rfl))
  f322 := Tryz.func150.trans (congrArg some (by kernel_rfl))
  f337 := Tryz.func160.trans (congrArg some (by kernel_rfl))
  f338 := Tryz.func41.trans (congrArg some (by kernel_rfl))
  t0 := Tryz.underlying0
  a0 := Tryz.isAgg0
  z0 := Tryz.sizeOf0
  v0 := Tryz.zeroValue0
  t2 := Tryz.underlying2
  a2 := Tryz.isAgg2
  z2 := Tryz.sizeOf2
  v2 := Tryz.zeroValue2
  t3 := Tryz.underlying3
  a3 := Tryz.isAgg3
  z3 := Tryz.sizeOf3
  v3 := Tryz.zeroValue3
  t4 := Tryz.underlying4
  a4 := Tryz.isAgg4
  z4 := Tryz.sizeOf4
  v4 := Tryz.zeroValue4
  t5 := Tryz.underlying5
  a5 := Tryz.isAgg5
  z5 := Tryz.sizeOf5
  v5 := Tryz.zeroValue5
  t9 := Tryz.underlying9
  a9 := Tryz.isAgg9
  z9 := Tryz.sizeOf9
  v9 := Tryz.zeroValue9
  t20 := Tryz.underlying20
  a20 := Tryz.isAgg20
  z20 := Tryz.sizeOf20
  v20 := Tryz.zeroValue20
  t21 := Tryz.underlying21
  a21 := Tryz.isAgg21
  z21 := Tryz.sizeOf21
  v21 := Tryz.zeroValue21
  t37 := Tryz.underlying48
  a37 := Tryz.isAgg48
  z37 := Tryz.sizeOf48
  v37 := Tryz.zeroValue48
  t46 := Tryz.underlying75
  a46 := Tryz.isAgg75
  z46 := Tryz.sizeOf75
  v46 := Tryz.zeroValue75
  t51 := Tryz.underlying43
  a51 := Tryz.isAgg43
  z51 := Tryz.sizeOf43
  v51 := Tryz.zeroValue43
  t53 := Tryz.underlying36
  a53 := Tryz.isAgg36
  z53 := Tryz.sizeOf36
  v53 := Tryz.zeroValue36
  t75 := Tryz.underlying105
  a75 := Tryz.isAgg105
  z75 := Tryz.sizeOf105
  v75 := Tryz.zeroValue105
  t76 := Tryz.underlying106
  a76 := Tryz.isAgg106
  z76 := Tryz.sizeOf106
  v76 := Tryz.zeroValue106
  t85 := Tryz.underlying112
  a85 := Tryz.isAgg112
  z85 := Tryz.sizeOf112
  v85 := Tryz.zeroValue112
  t127 := Tryz.underlying146
  a127 := Tryz.isAgg146
  z127 := Tryz.sizeOf146
  v127 := Tryz.zeroValue146
  t143 := Tryz.underlying203
  a143 := Tryz.isAgg203
  z143 := Tryz.sizeOf203
  v143 := Tryz.zeroValue203
  t145 := Tryz.underlying205
  a145 := Tryz.isAgg205
  z145 := Tryz.sizeOf205
  v145 := Tryz.zeroValue205
  t167 := Tryz.underlying168
  a167 := Tryz.isAgg168
  z167 := Tryz.sizeOf168
  v167 := Tryz.zeroValue168
  t168 := Tryz.underlying169
  a168 := Tryz.isAgg169
  z168 := Tryz.sizeOf169
  v168 := Tryz.zeroValue169
  t171 := Tryz.underlying162
  a171 := Tryz.isAgg162
  z171 := Tryz.sizeOf162
  v171 := Tryz.zeroValue162
  t173 := Tryz.underlying164
  a173 := Tryz.isAgg164
  z173 := Tryz.sizeOf164
  v173 := Tryz.zeroValue164
  t175 := Tryz.underlying173
  a175 := Tryz.isAgg173
  z175 := Tryz.sizeOf173
  v175 := Tryz.zeroValue173
  t210 := Tryz.underlying196
  a210 := Tryz.isAgg196
  z210 := Tryz.sizeOf196
  v210 := Tryz.zeroValue196
  t212 := Tryz.underlying189
  a212 := Tryz.isAgg189
  z212 := Tryz.sizeOf189
  v212 := Tryz.zeroValue189
  t213 := Tryz.underlying190
  a213 := Tryz.isAgg190
  z213 := Tryz.sizeOf190
  t232 := Tryz.underlying207
  a232 := Tryz.isAgg207
  z232 := Tryz.sizeOf207
  v232 := Tryz.zeroValue207
  t233 := Tryz.underlying125
  a233 := Tryz.isAgg125
  z233 := Tryz.sizeOf125
  v233 := Tryz.zeroValue125
  g15 := by kernel_rfl
  g16 := by kernel_rfl
  g17 := by kernel_rfl
  g18 := by kernel_rfl
  g19 := by kernel_rfl
  t80 := Tryz.underlying108
  a80 := Tryz.isAgg108
  z80 := Tryz.sizeOf108
  v80 := Tryz.zeroValue108
  i0 := by kernel_rfl
  i2 := by kernel_rfl
  i3 := by kernel_rfl
  i4 := by kernel_rfl
  i5 := by kernel_rfl
  i9 := by kernel_rfl
  i20 := by kernel_rfl
  i21 := by kernel_rfl
  i37 := by kernel_rfl
  i46 := by kernel_rfl
  i51 := by kernel_rfl
  i53 := by kernel_rfl
  i75 := by kernel_rfl
  i76 := by kernel_rfl
  i80 := by kernel_rfl
  i85 := by kernel_rfl
  i127 := by kernel_rfl
  i143 := by kernel_rfl
  i145 := by kernel_rfl
  i167 := by kernel_rfl
  i168 := by kernel_rfl
  i171 := by kernel_rfl
  i173 := by kernel_rfl
  i175 := by kernel_rfl
  i210 := by kernel_rfl
  i212 := by kernel_rfl
  i232 := by kernel_rfl
  i233 := by kernel_rfl
  m15 := by kernel_rfl
  m16 := by kernel_rfl
  m17 := by kernel_rfl
  m18 := by kernel_rfl
  m19 := by kernel_rfl
  c0 := by kernel_rfl
  c2 := by kernel_rfl
  c3 := by kernel_rfl
  c4 := by kernel_rfl
  c5 := by kernel_rfl
  c9 := by kernel_rfl
  c20 := by kernel_rfl
  c21 := by kernel_rfl
  c37 := by kernel_rfl
  c46 := by kernel_rfl
  c51 := by kernel_rfl
  c53 := by kernel_rfl
  c75 := by kernel_rfl
  c76 := by kernel_rfl
  c80 := by kernel_rfl
  c85 := by kernel_rfl
  c127 := by kernel_rfl
  c143 := by kernel_rfl
  c145 := by kernel_rfl
  c167 := by kernel_rfl
  c168 := by kernel_rfl
  c171 := by kernel_rfl
  c173 := by kernel_rfl
  c175 := by kernel_rfl
  c210 := by kernel_rfl
  c212 := by kernel_rfl
  c213 := by kernel_rfl
  c232 := by kernel_rfl
  c233 := by kernel_rfl

def pintLays_ren : Go.Shelf.Ren := ⟨fun | 174 => 68 | 247 => 98 | 245 => 96 | 287 => 123 | 279 => 118 | 280 => 119 | 281 => 120 | 282 => 121 | 321 => 149 | 322 => 150 | 316 => 147 | 171 => 59 | 205 => 148 | 243 => 92 | 246 => 93 | 283 => 110 | 284 => 111 | 285 => 112 | 286 => 113 | 129 => 141 | 317 => 140 | 318 => 142 | 319 => 143 | 320 => 144 | 337 => 160 | 338 => 41 | n => n, fun | 9 => 9 | 3 => 3 | 2 => 2 | 75 => 105 | 85 => 112 | 4 => 4 | 167 => 168 | 5 => 5 | 53 => 36 | 175 => 173 | 46 => 75 | 168 => 169 | 37 => 48 | 0 => 0 | 210 => 196 | 21 => 21 | 127 => 146 | 145 => 205 | 143 => 203 | 171 => 162 | 173 => 164 | 212 => 189 | 51 => 43 | 20 => 20 | 213 => 190 | 232 => 207 | 233 => 125 | 80 => 108 | n => n, fun | 15 => 4 | 16 => 5 | 17 => 3 | 18 => 6 | 19 => 1 | n => n⟩
theorem pintLays : Go.Proofs.LaysC.n174 Tryz.prog pintLays_ren where
  mixed := by kernel_rfl
  f129 := Tryz.func141.trans (congrArg some (by kernel_rfl))
  f171 := Tryz.func59.trans (congrArg some (by kernel_rfl))
  f174 := Tryz.func68.trans (congrArg some (by kernel_rfl))
  f205 := Tryz.func148.trans (congrArg some (by kernel_rfl))
  f243 := Tryz.func92.trans (congrArg some (by kernel_rfl))
  f245 := Tryz.func96.trans (congrArg some (by kernel_rfl))
  f246 := Tryz.func93.trans (congrArg some (by kernel_rfl))
  f247 := Tryz.func98.trans (congrArg some (by kernel_rfl))
  f279 := Tryz.func118.trans (congrArg some (by kernel_rfl))
  f280 := Tryz.func119.trans (congrArg some (by kernel_rfl))
  f281 := Tryz.func120.trans (congrArg some (by kernel_rfl))
  f282 := Tryz.func121.trans (congrArg some (by kernel_rfl))
  f283 := Tryz.func110.trans (congrArg some (by kernel_rfl))
  f284 := Tryz.func111.trans (congrArg some (by kernel_rfl))
  f285 := Tryz.func112.trans (congrArg some (by kernel_rfl))
  f286 := Tryz.func113.trans (congrArg some (by kernel_rfl))
  f287 := Tryz.func123.trans (congrArg some (by kernel_rfl))
  f316 := Tryz.func147.trans (congrArg some (by kernel_rfl))
  f317 := Tryz.func140.trans (congrArg some (by kernel_rfl))
  f318 := Tryz.func142.trans (congrArg some (by kernel_rfl))
  f319 := Tryz.func143.trans (congrArg some (by kernel_rfl))
  f320 := Tryz.func144.trans (congrArg some (by kernel_rfl))
  f321 := Tryz.func149.trans (congrArg some (by kernel_rfl))
  f322 := Tryz.func150.trans (congrArg some (by kernel_rfl))
  f337 := Tryz.func160.trans (congrArg some (by kernel_rfl))
  f338 := Tryz.func41.trans (congrArg some (by kernel_rfl))
  t0 := Tryz.underlying0
  a0 := Tryz.isAgg0
  z0 := Tryz.sizeOf0
  v0 := Tryz.zeroValue0
  t2 := Tryz.underlying2
  a2 := Tryz.isAgg2
  z2 := Tryz.sizeOf2
  v2 := Tryz.zeroValue2
  t3 := Tryz.underlying3
  a3 := Tryz.isAgg3
  z3 := Tryz.sizeOf3
  v3 := Tryz.zeroValue3
  t4 := Tryz.underlying4
  a4 := Tryz.isAgg4
  z4 := Tryz.sizeOf4
  v4 := Tryz.zeroValue4
  t5 := Tryz.underlying5
  a5 := Tryz.isAgg5
  z5 := Tryz.sizeOf5
  v5 := Tryz.zeroValue5
  t9 := Tryz.underlying9
  a9 := Tryz.isAgg9
  z9 := Tryz.sizeOf9
  v9 := Tryz.zeroValue9
  t20 := Tryz.underlying20
  a20 := Tryz.isAgg20
  z20 := Tryz.sizeOf20
  v20 := Tryz.zeroValue20
  t21 := Tryz.underlying21
  a21 := Tryz.isAgg21
  z21 := Tryz.sizeOf21
  v21 := Tryz.zeroValue21
  t37 := Tryz.underlying48
  a37 := Tryz.isAgg48
  z37 := Tryz.sizeOf48
  v37 := Tryz.zeroValue48
  t46 := Tryz.underlying75
  a46 := Tryz.isAgg75
  z46 := Tryz.sizeOf75
  v46 := Tryz.zeroValue75
  t51 := Tryz.underlying43
  a51 := Tryz.isAgg43
  z51 := Tryz.sizeOf43
  v51 := Tryz.zeroValue43
  t53 := Tryz.underlying36
  a53 := Tryz.isAgg36
  z53 := Tryz.sizeOf36
  v53 := Tryz.zeroValue36
  t75 := Tryz.underlying105
  a75 := Tryz.isAgg105
  z75 := Tryz.sizeOf105
  v75 := Tryz.zeroValue105
  t85 := Tryz.underlying112
  a85 := Tryz.isAgg112
  z85 := Tryz.sizeOf112
  v85 := Tryz.zeroValue112
  t127 := Tryz.underlying146
  a127 := Tryz.isAgg146
  z127 := Tryz.sizeOf146
  v127 := Tryz.zeroValue146
  t143 := Tryz.underlying203
  a143 := Tryz.isAgg203
  z143 := Tryz.sizeOf203
  v143 := Tryz.zeroValue203
  t145 := Tryz.underlying205
  a145 := Tryz.isAgg205
  z145 := Tryz.sizeOf205
  v145 := Tryz.zeroValue205
  t167 := Tryz.underlying168
  a167 := Tryz.isAgg168
  z167 := Tryz.sizeOf168
  v167 := Tryz.zeroValue168
  t168 := Tryz.underlying169
  a168 := Tryz.isAgg169
  z168 := Tryz.sizeOf169
  v168 := Tryz.zeroValue169
  t171 := Tryz.underlying162
  a171 := Tryz.isAgg162
  z171 := Tryz.sizeOf162
  v171 := Tryz.zeroValue162
  t173 := Tryz.underlying164
  a173 := Tryz.isAgg164
  z173 := Tryz.sizeOf164
  v173 := Tryz.zeroValue164
  t175 := Tryz.underlying173
  a175 := Tryz.isAgg173
  z175 := Tryz.sizeOf173
  v175 := Tryz.zeroValue173
  t210 := Tryz.underlying196
  a210 := Tryz.isAgg196
  z210 := Tryz.sizeOf196
  v210 := Tryz.zeroValue196
  t212 := Tryz.underlying189
  a212 := Tryz.isAgg189
  z212 := Tryz.sizeOf189
  v212 := Tryz.zeroValue189
  t213 := Tryz.underlying190
  a213 := Tryz.isAgg190
  z213 := Tryz.sizeOf190
  t232 := Tryz.underlying207
  a232 := Tryz.isAgg207
  z232 := Tryz.sizeOf207
  v232 := Tryz.zeroValue207
  t233 := Tryz.underlying125
  a233 := Tryz.isAgg125
  z233 := Tryz.sizeOf125
  v233 := Tryz.zeroValue125
  g15 := by kernel_rfl
  g16 := by kernel_rfl
  g17 := by kernel_rfl
  g18 := by kernel_rfl
  g19 := by kernel_rfl
  t80 := Tryz.underlying108
  a80 := Tryz.isAgg108
  z80 := Tryz.sizeOf108
  v80 := Tryz.zeroValue108
  i0 := by kernel_rfl
  i2 := by kernel_rfl
  i3 := by kernel_rfl
  i4 := by kernel_rfl
  i5 := by kernel_rfl
  i9 := by kernel_rfl
  i20 := by kernel_rfl
  i21 := by kernel_rfl
  i37 := by kernel_rfl
  i46 := by kernel_rfl
  i51 := by kernel_rfl
  i53 := by kernel_rfl
  i75 := by kernel_rfl
  i80 := by kernel_rfl
  i85 := by kernel_rfl
  i127 := by kernel_rfl
  i143 := by kernel_rfl
  i145 := by kernel_rfl
  i167 := by kernel_rfl
  i168 := by kernel_rfl
  i171 := by kernel_rfl
  i173 := by kernel_rfl
  i175 := by kernel_rfl
  i210 := by kernel_rfl
  i212 := by kernel_rfl
  i232 := by kernel_rfl
  i233 := by kernel_rfl
  m15 := by kernel_rfl
  m16 := by kernel_rfl
  m17 := by kernel_rfl
  m18 := by kernel_rfl
  m19 := by kernel_rfl
  c0 := by kernel_rfl
  c2 := by kernel_rfl
  c3 := by kernel_rfl
  c4 := by kernel_rfl
  c5 := by kernel_rfl
  c9 := by kernel_rfl
  c20 := by kernel_rfl
  c21 := by kernel_rfl
  c37 := by kernel_rfl
  c46 := by kernel_rfl
  c51 := by kernel_rfl
  c53 := by kernel_rfl
  c75 := by kernel_rfl
  c80 := by kernel_rfl
  c85 := by kernel_rfl
  c127 := by kernel_rfl
  c143 := by kernel_rfl
  c145 := by kernel_rfl
  c167 := by kernel_rfl
  c168 := by kernel_rfl
  c171 := by kernel_rfl
  c173 := by kernel_rfl
  c175 := by kernel_rfl
  c210 := by kernel_rfl
  c212 := by kernel_rfl
  c213 := by kernel_rfl
  c232 := by kernel_rfl
  c233 := by kernel_rfl

end Go.Proofs.YtakdhdaoklcidaaGreatDoor

namespace Go.Proofs.YtakdhdaoklcidaaGreatDoor
open Go.RowKit Go.Lib
set_option linter.unusedVariables false
set_option maxRecDepth 100000

theorem gPow : Tryz.prog.globalNamed "internal/strconv.uint64pow10" = some 3 := by kernel_rfl

/-- A cell that stood stands. -/
theorem cell_stays {w w' : World} (hb : Below w.heap.size w w') {a : Addr} {v : Value} (hc : w.cell? a = some v) : w'.cell? a = some v := (hb.cell (World.block_lt_of_cell? w a hc)).trans hc
/-- What stands of the package-level variables. -/
structure Env (w : World) : Prop where
  tab : Tab w
  pow : Lib.TabIs Tryz.prog w "internal/strconv.uint64pow10" .u64 Lib.pow10Tab
  bru : ∀ j, j < 64 → ∃ k : Nat, w.cell? ⟨1, j, none⟩ = some (.int .u8 k) ∧ k = ([0, 1, 56, 2, 57, 49, 28, 3, 61, 58, 42, 50, 38, 29, 17, 4, 62, 47, 59, 36, 45, 43, 51, 22, 53, 39, 33, 30, 24, 18, 12, 5, 63, 55, 48, 27, 60, 41, 37, 16, 46, 35, 44, 21, 52, 32, 23, 11, 54, 26, 40, 15, 34, 20, 31, 10, 25, 14, 19, 9, 13, 8, 7, 6] : List Nat).getD j 0
  esy : ∃ tp p, w.cell? ⟨4, 0, none⟩ = some (.iface tp p)
  era : ∃ tp p, w.cell? ⟨5, 0, none⟩ = some (.iface tp p)
  mlen : ∃ m, w.cell? ⟨2, 0, none⟩ = some (.int .i64 m)
theorem pow_below {w w' : World} (h : Lib.TabIs Tryz.prog w "internal/strconv.uint64pow10" .u64 Lib.pow10Tab) (hb : Below w.heap.size w w') : Lib.TabIs Tryz.prog w' "internal/strconv.uint64pow10" .u64 Lib.pow10Tab := by
  unfold Lib.TabIs World.var? at h ⊢
  rw [gPow] at h ⊢
  simp only [Option.bind_some] at h ⊢
  have hlt : 3 < w.heap.size := by
    rcases Nat.lt_or_ge 3 w.heap.size with h' | h'
    · exact h'
    · rw [Array.getElem?_eq_none h'] at h; cases h
  rw [hb.block _ hlt]
  exact h
theorem Env.below {w w' : World} (h : Env w) (hb : Below w.heap.size w w') : Env w' where
  tab := h.tab.below hb
  pow := pow_below h.pow hb
  bru := fun j hj => by obtain ⟨k, h1, h2⟩ := h.bru j hj; exact ⟨k, cell_stays hb h1, h2⟩
  esy := by obtain ⟨t, p, h1⟩ := h.esy; exact ⟨t, p, cell_stays hb h1⟩
  era := by obtain ⟨t, p, h1⟩ := h.era; exact ⟨t, p, cell_stays hb h1⟩
  mlen := by obtain ⟨m, h1⟩ := h.mlen; exact ⟨m, cell_stays hb h1⟩
theorem drewN_below (w : World) (n : Nat) : Below w.heap.size w (w.drewN n) := ⟨rfl, rfl, rfl, Nat.le_refl _, fun _ _ => rfl⟩

theorem cutP (l sep : Bs) (w : World) (hs : l.length ≤ 1000000) (he : Env w) : Calls Tryz.prog 34 #[str l, str sep] w fun e w' => e = .returned (.tuple #[str (cut l sep).1, str (cut l sep).2.1, .bool (cut l sep).2.2]) ∧ Below w.heap.size w w' := by
  obtain ⟨m, hm⟩ := he.mlen
  refine (Any.strings_Cut cutLays ⟨l.toArray⟩ ⟨sep.toArray⟩ m w (by show l.toArray.size < _; rw [List.size_toArray]; omega) hm).mono ?_
  rintro e w' ⟨rfl, n, rfl⟩
  exact ⟨rfl, drewN_below _ _⟩

theorem sufP (l p : Bs) (w : World) (hs : l.length ≤ 1000000) : Calls Tryz.prog 69 #[str l, str p] w fun e w' => e = .returned (.tuple #[str (trimSuffix l p), .bool (hasSuffix l p)]) ∧ w = w' := by
  refine (Any.strings_CutSuffix sufLays ⟨l.toArray⟩ ⟨p.toArray⟩ w (by show l.toArray.size ≤ _; rw [List.size_toArray]; omega)).mono ?_
  rintro e w' ⟨rfl, rfl⟩
  exact ⟨rfl, rfl⟩

theorem preP (l p : Bs) (w : World) : Calls Tryz.prog 66 #[str l, str p] w fun e w' => e = .returned (str (trimPrefix l p)) ∧ w = w' := by
  refine (Any.strings_TrimPrefix preLays ⟨l.toArray⟩ ⟨p.toArray⟩ w).mono ?_
  rintro e w' ⟨rfl, rfl⟩
  exact ⟨rfl, rfl⟩

theorem itoaP (n : Int) (h0 : -9223372036854775808 ≤ n) (h1 : n ≤ 9223372036854775807) (w : World) (he : Env w) : Calls Tryz.prog 59 #[.int .i64 n] w fun e w' => e = .returned (str (itoa n)) ∧ Below w.heap.size w w' := by
  refine (Any.strconv_Itoa itoaLays n h0 h1 w he.pow).mono ?_
  rintro e w' ⟨rfl, k, os, rfl⟩
  exact ⟨rfl, below_grow _ _ (Nat.le_refl _) _ _⟩

theorem fmtP (n : Int) (h0 : -9223372036854775808 ≤ n) (h1 : n ≤ 9223372036854775807) (w : World) (he : Env w) : Calls Tryz.prog 60 #[.int .i64 n, .int .i64 10] w fun e w' => e = .returned (str (itoa n)) ∧ Below w.heap.size w w' := by
  refine (Any.strconv_FormatInt_10 fmtLays n h0 h1 w he.pow).mono ?_
  rintro e w' ⟨rfl, k, os, rfl⟩
  exact ⟨rfl, below_grow _ _ (Nat.le_refl _) _ _⟩

theorem atoi_some (l : Bs) (w : World) (hs : l.length ≤ 1000000) (he : Env w) : Calls Tryz.prog 65 #[str l] w fun e w' => ∃ v, e = .returned (.tuple #[.int .i64 (numP l), v]) ∧ Below w.heap.size w w' := by
  have hz : (⟨l.toArray⟩ : ByteArray).size = l.length := List.size_toArray
  unfold numP
  cases e : atoiAll l with
  | ok v =>
    refine (Any.strconv_Atoi_ok atoiLays ⟨l.toArray⟩ (by omega) v e w).mono ?_
    rintro e w' ⟨rfl, hw⟩
    refine ⟨_, rfl, ?_⟩
    rcases hw with rfl | ⟨t, rfl⟩
    · exact Below.refl _ _
    · exact Lib.bytesWorld_below _ _ _
  | range =>
    obtain ⟨tp, p, hv⟩ := he.era
    refine (Any.strconv_Atoi_range atoiLays ⟨l.toArray⟩ (by omega) e _ w hv (Or.inr ⟨tp, p, rfl⟩)).mono ?_
    rintro e w' ⟨N, rfl, _, _, hb⟩
    exact ⟨_, rfl, hb⟩
  | _ =>
    obtain ⟨tp, p, hv⟩ := he.esy
    refine (Any.strconv_Atoi_syntax atoiLays ⟨l.toArray⟩ (by omega) e _ w hv (Or.inr ⟨tp, p, rfl⟩)).mono ?_
    rintro e w' ⟨N, rfl, _, _, hb⟩
    exact ⟨_, rfl, hb⟩

theorem pint_some (l : Bs) (w : World) (hs : l.length ≤ 1000000) (he : Env w) : Calls Tryz.prog 68 #[str l, .int .i64 10, .int .i64 64] w fun e w' => ∃ v, e = .returned (.tuple #[.int .i64 (numP l), v]) ∧ Below w.heap.size w w' := by
  have hz : (⟨l.toArray⟩ : ByteArray).size = l.length := List.size_toArray
  unfold numP
  cases e : atoiAll l with
  | ok v =>
    rw [← parseIntB_64] at e
    refine (Any.strconv_ParseInt_10_at64_ok pintLays ⟨l.toArray⟩ (by omega) v e w).mono ?_
    rintro e w' ⟨rfl, hw⟩
    refine ⟨_, rfl, ?_⟩
    rcases hw with rfl | ⟨t, rfl⟩
    · exact Below.refl _ _
    · exact Lib.bytesWorld_below _ _ _
  | range =>
    obtain ⟨tp, p, hv⟩ := he.era
    rw [← parseIntB_64] at e
    refine (Any.strconv_ParseInt_10_at64_range pintLays ⟨l.toArray⟩ (by omega) e _ w hv (Or.inr ⟨tp, p, rfl⟩)).mono ?_
    rintro e w' ⟨N, rfl, _, _, hb⟩
    have e2 : Lib.intSat 64 (⟨l.toArray⟩ : ByteArray).data.toList = atoiSat l := intSat_64 l
    rw [e2]
    exact ⟨_, rfl, hb⟩
  | _ =>
    obtain ⟨tp, p, hv⟩ := he.esy
    rw [← parseIntB_64] at e
    refine (Any.strconv_ParseInt_10_at64_syntax pintLays ⟨l.toArray⟩ (by omega) e _ w hv (Or.inr ⟨tp, p, rfl⟩)).mono ?_
    rintro e w' ⟨N, rfl, _, _, hb⟩
    exact ⟨_, rfl, hb⟩

/-- A register's text, a number's text. -/
theorem registerText_any (n : Int) (h0 : -9223372036854775808 ≤ n) (h1 : n ≤ 9223372036854775807) (w : World) (he : Env w) : Calls Tryz.prog 28 #[.int .i64 n] w fun e w' => e = .returned (str (xr n)) ∧ Below w.heap.size w w' := by
  have H := Lib.hid (itoaP n h0 h1 w he)
  have hx : str (xr n) = .string ((⟨#[120]⟩ : ByteArray) ++ ⟨(itoa n).toArray⟩) := by
    show Value.string _ = Value.string _
    congr 1
  have HX := Lib.hid hx
  have hl := itoa_length_le n h0 h1
  clear hx h0 h1 he
  generalize xr n = xs at *
  generalize itoa n = ys at *
  go_enter Tryz.func28, Tryz.ntmps28
  go_wp2_with (go_at_call 59; (with_reducible refine H.out.mono ?_); rintro e1 w1 ⟨rfl, hb1⟩; have HB := Lib.hid hb1; clear hb1)
  go_ret
  exact ⟨(congrArg Ending.returned HX.out).symm, HB.out⟩

theorem numberText_any (n : Int) (h0 : -9223372036854775808 ≤ n) (h1 : n ≤ 9223372036854775807) (w : World) (he : Env w) : Calls Tryz.prog 29 #[.int .i64 n] w fun e w' => e = .returned (str (itoa n)) ∧ Below w.heap.size w w' := by
  have H := Lib.hid (fmtP n h0 h1 w he)
  clear h0 h1 he
  generalize itoa n = ys at *
  go_enter Tryz.func29, Tryz.ntmps29
  go_wp2_with (go_at_call 60; (with_reducible refine H.out.mono ?_); rintro e1 w1 ⟨rfl, hb1⟩; have HB := Lib.hid hb1; clear hb1)
  go_ret
  exact ⟨rfl, HB.out⟩

end Go.Proofs.YtakdhdaoklcidaaGreatDoor

namespace Go.Proofs.YtakdhdaoklcidaaGreatDoor
open Go.RowKit
set_option linter.unusedVariables false
set_option maxRecDepth 100000

/-- Of the blocks that were there only those of S may have turned. -/
structure Only (S : Nat → Prop) (w w' : World) : Prop where
  os : w'.os = w.os
  tape : w'.tape = w.tape
  output : w'.output = w.output
  size : w.heap.size ≤ w'.heap.size
  block : ∀ k, k < w.heap.size → ¬ S k → w'.heap[k]? = w.heap[k]?

theorem Only.refl (S : Nat → Prop) (w : World) : Only S w w := ⟨rfl, rfl, rfl, Nat.le_refl _, fun _ _ _ => rfl⟩
/-- Two steps: what the second one turns is S's, or new since the first. -/
theorem Only.step {S T : Nat → Prop} {a b c : World} (h : Only S a b) (k : Only T b c) (hT : ∀ i, T i → S i ∨ a.heap.size ≤ i) : Only S a c :=
  ⟨k.os.trans h.os, k.tape.trans h.tape, k.output.trans h.output, Nat.le_trans h.size k.size, fun i hi hs =>
    (k.block i (Nat.lt_of_lt_of_le hi h.size) (fun ht => by rcases hT i ht with h1 | h1; exact hs h1; omega)).trans (h.block i hi hs)⟩
theorem Only.trans {S : Nat → Prop} {a b c : World} (h : Only S a b) (k : Only S b c) : Only S a c := h.step k fun _ hi => .inl hi
theorem Only.mono {S T : Nat → Prop} {a b : World} (h : Only S a b) (hT : ∀ i, S i → T i ∨ a.heap.size ≤ i) : Only T a b := (Only.refl T a).step h hT
theorem Only.of_below {w w' : World} (S : Nat → Prop) (h : Below w.heap.size w w') : Only S w w' := ⟨h.os, h.tape, h.output, h.size, fun k hk _ => h.block k hk⟩
theorem Only.below {S : Nat → Prop} {w w' : World} {B : Nat} (h : Only S w w') (hS : ∀ k, S k → B ≤ k) (hB : B ≤ w.heap.size) : Below B w w' :=
  ⟨h.os, h.tape, h.output, h.size, fun k hk => h.block k (by omega) (fun hs => by have := hS k hs; omega)⟩
theorem Only.thenBelow {S : Nat → Prop} {a b c : World} (h : Only S a b) (k : Below b.heap.size b c) : Only S a c := h.trans (Only.of_below S k)
/-- A chain that began below: what an object's call turns is new since the chain began. -/
theorem Below.thenOnly {S : Nat → Prop} {a b c : World} {B : Nat} (h : Below B a b) (k : Only S b c) (hS : ∀ i, S i → B ≤ i) (hB : B ≤ b.heap.size) : Below B a c := h.trans (k.below hS hB)
theorem Only.drewN {S : Nat → Prop} {a w : World} (h : Only S a w) (n : Nat) : Only S a (w.drewN n) := ⟨h.os, h.tape, h.output, h.size, h.block⟩
theorem Only.alloc {S : Nat → Prop} {a w : World} (h : Only S a w) (o : Obj) : Only S a (w.alloc o) := h.thenBelow ((Below.refl _ _).alloc (Nat.le_refl _) o)
theorem Only.setCell {S : Nat → Prop} {a w : World} (h : Only S a w) {p : Addr} (hp : S p.block ∨ a.heap.size ≤ p.block) (u : Value) : Only S a (w.setCell p u) :=
  h.step (T := fun i => i = p.block) ⟨rfl, rfl, rfl, by simp [World.setCell], fun k _ hk => Below.heap_setCell _ _ _ _ hk⟩ (by rintro i rfl; exact hp)
theorem Only.setRow {S : Nat → Prop} {a w : World} (h : Only S a w) {g : Nat} (hg : S g ∨ a.heap.size ≤ g) (cs : Array Value) : Only S a (w.setRow g cs) :=
  h.step (T := fun i => i = g) ⟨rfl, rfl, rfl, by rw [size_setRow]; exact Nat.le_refl _, fun k _ hk => Go.setRow_other w g k cs hk⟩ (by rintro i rfl; exact hg)
theorem Only.grown {S : Nat → Prop} {a w w' : World} {row : Option Nat} (h : Only S a w) (hg : w.grownBy w' row) (hr : ∀ k, row = some k → S k ∨ a.heap.size ≤ k) : Only S a w' :=
  h.step (T := fun i => row = some i) ⟨hg.os, hg.tape, hg.output, hg.size, fun k hk hn => hg.block k hk (fun e => hn e.symm)⟩ hr

/-- What stands in a block that is none of S's stands there still. -/
theorem Only.keeps {S : Nat → Prop} {w w' : World} (h : Only S w w') {g : Nat} {o : Obj} (hs : ¬ S g) (hg : w.heap[g]? = some o) : w'.heap[g]? = some o :=
  (h.block g (Array.getElem?_eq_some_iff.1 hg).1 hs).trans hg

/-- The cells from the beginning of block g on read as vs. -/
def Lays (w : World) (g : Nat) (vs : List Value) : Prop := ∃ cur t fr, w.heap[g]? = some (.cells cur t fr) ∧ cur.toList.take vs.length = vs
theorem Lays.lt {w : World} {g : Nat} {vs : List Value} (h : Lays w g vs) : g < w.heap.size := by
  obtain ⟨cur, t, fr, h, _⟩ := h; exact (Array.getElem?_eq_some_iff.1 h).1
theorem Lays.keeps {S : Nat → Prop} {w w' : World} {g : Nat} {vs : List Value} (h : Lays w g vs) (k : Only S w w') (hs : ¬ S g) : Lays w' g vs := by
  obtain ⟨cur, t, fr, h1, h2⟩ := h; exact ⟨cur, t, fr, k.keeps hs h1, h2⟩
theorem Lays.cell {w : World} {g : Nat} {vs : List Value} (h : Lays w g vs) {i : Nat} {v : Value} (hi : vs[i]? = some v) : w.cell? ⟨g, i, none⟩ = some v := by
  obtain ⟨cur, t, fr, h1, h2⟩ := h
  rw [cell_of_row w g i cur t fr h1]
  have hl : i < vs.length := (List.getElem?_eq_some_iff.1 hi).1
  have e : (cur.toList.take vs.length)[i]? = some v := by rw [h2]; exact hi
  rw [List.getElem?_take, if_pos hl] at e
  rw [← e]; simp
theorem Lays.own {base : Nat} {e : TypeId} {size : Nat} {w : World} {v : Value} {n : Nat} {vs : List Value} (h : w.ownsRow base e size v n vs) :
    (v = .slice none 0 0 ∧ n = 0 ∧ vs = []) ∨ ∃ g cap, v = .slice (some ⟨g, 0, none⟩) n cap ∧ base ≤ g ∧ Lays w g vs := by
  have hl := h.1
  rcases h.2 with ⟨hv, h0⟩ | ⟨g, cap, cur, hv, hg, hh, hn, _, hc, ht⟩
  · subst h0; exact .inl ⟨hv, rfl, List.eq_nil_of_length_eq_zero (by simpa using hl)⟩
  · exact .inr ⟨g, cap, hv, hg, cur, e, (0, 0), hh, by rw [hl]; exact ht⟩

end Go.Proofs.YtakdhdaoklcidaaGreatDoor

namespace Go.Proofs.YtakdhdaoklcidaaGreatDoor
open Go.RowKit
set_option linter.unusedVariables false
set_option maxRecDepth 100000

theorem reg7 (x : Int) (w : World) : Calls Tryz.prog 88 #[.int .u32 x, .int .i64 7] w fun e w' => e = .returned (.int .i64 (fldZ x 11 7)) ∧ w = w' := register_any x 7 (by omega) (by omega) w
theorem reg15 (x : Int) (w : World) : Calls Tryz.prog 88 #[.int .u32 x, .int .i64 15] w fun e w' => e = .returned (.int .i64 (fldZ x 19 15)) ∧ w = w' := register_any x 15 (by omega) (by omega) w
theorem reg20 (x : Int) (w : World) : Calls Tryz.prog 88 #[.int .u32 x, .int .i64 20] w fun e w' => e = .returned (.int .i64 (fldZ x 24 20)) ∧ w = w' := register_any x 20 (by omega) (by omega) w
theorem num8 (x : Int) (w : World) : Calls Tryz.prog 90 #[.int .i64 8, .int .u32 x] w fun e w' => e = .returned (.tuple #[.int .i64 (fldZ x 31 20), .bool true]) ∧ Below w.heap.size w w' := by
  rw [csr_number]; exact progNumber 8 (by omega) x w
theorem size_ins : (Tryz.prog.info? 23).map (·.size) = some 8 := by kernel_rfl
/-- What stands behind a call that is made with three new blocks. -/
theorem rows3 {w w2 : World} {A B C : Array Value} {a b c : TypeId} (h : Below (((w.alloc (.cells A a)).alloc (.cells B b)).alloc (.cells C c)).heap.size (((w.alloc (.cells A a)).alloc (.cells B b)).alloc (.cells C c)) w2) :
    Hid (Below w.heap.size w w2) ∧ Hid (w2.heap[w.heap.size + 1]? = some (.cells B b (0, 0))) ∧ Hid (w2.heap[w.heap.size + 1 + 1]? = some (.cells C c (0, 0))) ∧ (∀ j, w2.cell? ⟨w.heap.size, j, none⟩ = A[j]?) ∧ w.heap.size + 1 + 1 < w2.heap.size := by
  have s1 : (w.alloc (.cells A a)).heap.size = w.heap.size + 1 := World.size_alloc _ _
  have s2 : ((w.alloc (.cells A a)).alloc (.cells B b)).heap.size = w.heap.size + 1 + 1 := by rw [World.size_alloc, s1]
  have s3 : (((w.alloc (.cells A a)).alloc (.cells B b)).alloc (.cells C c)).heap.size = w.heap.size + 1 + 1 + 1 := by rw [World.size_alloc, s2]
  have e0 : (((w.alloc (.cells A a)).alloc (.cells B b)).alloc (.cells C c)).heap[w.heap.size]? = some (.cells A a (0, 0)) := by
    rw [Below.heap_alloc _ _ _ (by omega), Below.heap_alloc _ _ _ (by omega)]; exact heap_alloc_new w _
  have e1 : (((w.alloc (.cells A a)).alloc (.cells B b)).alloc (.cells C c)).heap[w.heap.size + 1]? = some (.cells B b (0, 0)) := by
    rw [Below.heap_alloc _ _ _ (by omega), ← s1]; exact heap_alloc_new _ _
  have e2 : (((w.alloc (.cells A a)).alloc (.cells B b)).alloc (.cells C c)).heap[w.heap.size + 1 + 1]? = some (.cells C c (0, 0)) := by
    rw [← s2]; exact heap_alloc_new _ _
  refine ⟨Lib.hid (((((Below.refl _ _).alloc (Nat.le_refl _) _).alloc (by omega) _).alloc (by omega) _).trans (h.mono (by omega))), Lib.hid ((h.block _ (by omega)).trans e1), Lib.hid ((h.block _ (by omega)).trans e2), fun j => ?_, by have := h.size; omega⟩
  exact cell_of_row _ _ _ _ _ _ ((h.block _ (by omega)).trans e0)

set_option maxHeartbeats 1000000 in
theorem read_0 (op x : Int) (w : World) :
    Calls Tryz.prog 55 #[.agg #[.int .u32 127, .bool true, .bool false, .bool false, .int .i64 4, .bool false, .bool false], .int .i64 op, .int .u32 x] w fun e w' => e = .returned (.agg #[.int .i64 op, .int .i64 (fldZ x 11 7), .int .i64 (0), .int .i64 (0), .int .i64 ((formL 4).number x), .int .i64 (0), .bool (false), .bool (false)]) ∧ Below w.heap.size w w' := by
  have HI : Hid (∀ w, Calls Tryz.prog 90 #[.int .i64 4, .int .u32 x] w fun e w' => e = .returned (.tuple #[.int .i64 ((formL 4).number x), .bool true]) ∧ Below w.heap.size w w') := Lib.hid fun w => progNumber 4 (by omega) x w
  go_enter Tryz.func55, Tryz.ntmps55
  go_wp2_with (first
    | (go_at_call 88; (with_reducible refine (reg7 _ _).mono ?_); rintro e w3 ⟨rfl, rfl⟩)
    | (go_at_call 90; (with_reducible refine (HI.out _).mono ?_); rintro e ww2 ⟨rfl, hb2⟩; obtain ⟨HBww2, HZww2, HCww2, hpww2, hsww2⟩ := rows3 hb2; have qww20 : ww2.cell? ⟨w.heap.size + 1 + 1, 0, none⟩ = some (.int .i64 op) := (by rw [cell_of_row _ _ _ _ _ _ HCww2.out]; rfl); have qww21 : ww2.cell? ⟨w.heap.size + 1 + 1, 1, none⟩ = some (.int .i64 (fldZ x 11 7)) := (by rw [cell_of_row _ _ _ _ _ _ HCww2.out]; rfl); have qww22 : ww2.cell? ⟨w.heap.size + 1 + 1, 2, none⟩ = some (.int .i64 (0)) := (by rw [cell_of_row _ _ _ _ _ _ HCww2.out]; rfl); have qww23 : ww2.cell? ⟨w.heap.size + 1 + 1, 3, none⟩ = some (.int .i64 (0)) := (by rw [cell_of_row _ _ _ _ _ _ HCww2.out]; rfl); have qww24 : ww2.cell? ⟨w.heap.size + 1 + 1, 4, none⟩ = some (.int .i64 (0)) := (by rw [cell_of_row _ _ _ _ _ _ HCww2.out]; rfl); have qww25 : ww2.cell? ⟨w.heap.size + 1 + 1, 5, none⟩ = some (.int .i64 (0)) := (by rw [cell_of_row _ _ _ _ _ _ HCww2.out]; rfl); have qww26 : ww2.cell? ⟨w.heap.size + 1 + 1, 6, none⟩ = some (.bool (false)) := (by rw [cell_of_row _ _ _ _ _ _ HCww2.out]; rfl); have qww27 : ww2.cell? ⟨w.heap.size + 1 + 1, 7, none⟩ = some (.bool (false)) := (by rw [cell_of_row _ _ _ _ _ _ HCww2.out]; rfl); have qfww2 : ∀ j, ww2.frozen? ⟨w.heap.size + 1 + 1, j, none⟩ = false := fun j => frozen_of_row _ _ _ _ _ HCww2.out; have pww2 : ww2.cell? ⟨w.heap.size, 4, none⟩ = some (.int .i64 4) := (by rw [hpww2]; rfl); clear hb2 hpww2)
    | (refine wpList_store_row rfl _ _ _ rfl (w.heap.size + 1) _ rfl rfl 23 _ ((Below.heap_setCell ww2 ⟨w.heap.size + 1 + 1, 4, none⟩ (.int .i64 ((formL 4).number x)) (w.heap.size + 1) (by simp)).trans HZww2.out) size_ins rfl (by simp [Value.oneCell']) ?_))
  exact bodyPost_ret (v := .agg #[.int .i64 op, .int .i64 (fldZ x 11 7), .int .i64 (0), .int .i64 (0), .int .i64 ((formL 4).number x), .int .i64 (0), .bool (false), .bool (false)]) (results_cell_row (show Tryz.f55.results = #[.cell 6 23] by kernel_rfl) _ _ (w.heap.size + 1) 23 _ _ _ rfl (setRow_heap _ _ _ _ _ _ ((Below.heap_setCell ww2 ⟨w.heap.size + 1 + 1, 4, none⟩ (.int .i64 ((formL 4).number x)) (w.heap.size + 1) (by simp)).trans HZww2.out)) Tryz.underlying23 rfl size_ins) rfl ⟨rfl, below_setRow (HBww2.out.setCell (by show w.heap.size ≤ w.heap.size + 1 + 1; omega) _) (by omega) _⟩

set_option maxHeartbeats 1000000 in
theorem read_1 (op x : Int) (w : World) :
    Calls Tryz.prog 55 #[.agg #[.int .u32 127, .bool true, .bool false, .bool false, .int .i64 5, .bool false, .bool false], .int .i64 op, .int .u32 x] w fun e w' => e = .returned (.agg #[.int .i64 op, .int .i64 (fldZ x 11 7), .int .i64 (0), .int .i64 (0), .int .i64 ((formL 5).number x), .int .i64 (0), .bool (false), .bool (false)]) ∧ Below w.heap.size w w' := by
  have HI : Hid (∀ w, Calls Tryz.prog 90 #[.int .i64 5, .int .u32 x] w fun e w' => e = .returned (.tuple #[.int .i64 ((formL 5).number x), .bool true]) ∧ Below w.heap.size w w') := Lib.hid fun w => progNumber 5 (by omega) x w
  go_enter Tryz.func55, Tryz.ntmps55
  go_wp2_with (first
    | (go_at_call 88; (with_reducible refine (reg7 _ _).mono ?_); rintro e w3 ⟨rfl, rfl⟩)
    | (go_at_call 90; (with_reducible refine (HI.out _).mono ?_); rintro e ww2 ⟨rfl, hb2⟩; obtain ⟨HBww2, HZww2, HCww2, hpww2, hsww2⟩ := rows3 hb2; have qww20 : ww2.cell? ⟨w.heap.size + 1 + 1, 0, none⟩ = some (.int .i64 op) := (by rw [cell_of_row _ _ _ _ _ _ HCww2.out]; rfl); have qww21 : ww2.cell? ⟨w.heap.size + 1 + 1, 1, none⟩ = some (.int .i64 (fldZ x 11 7)) := (by rw [cell_of_row _ _ _ _ _ _ HCww2.out]; rfl); have qww22 : ww2.cell? ⟨w.heap.size + 1 + 1, 2, none⟩ = some (.int .i64 (0)) := (by rw [cell_of_row _ _ _ _ _ _ HCww2.out]; rfl); have qww23 : ww2.cell? ⟨w.heap.size + 1 + 1, 3, none⟩ = some (.int .i64 (0)) := (by rw [cell_of_row _ _ _ _ _ _ HCww2.out]; rfl); have qww24 : ww2.cell? ⟨w.heap.size + 1 + 1, 4, none⟩ = some (.int .i64 (0)) := (by rw [cell_of_row _ _ _ _ _ _ HCww2.out]; rfl); have qww25 : ww2.cell? ⟨w.heap.size + 1 + 1, 5, none⟩ = some (.int .i64 (0)) := (by rw [cell_of_row _ _ _ _ _ _ HCww2.out]; rfl); have qww26 : ww2.cell? ⟨w.heap.size + 1 + 1, 6, none⟩ = some (.bool (false)) := (by rw [cell_of_row _ _ _ _ _ _ HCww2.out]; rfl); have qww27 : ww2.cell? ⟨w.heap.size + 1 + 1, 7, none⟩ = some (.bool (false)) := (by rw [cell_of_row _ _ _ _ _ _ HCww2.out]; rfl); have qfww2 : ∀ j, ww2.frozen? ⟨w.heap.size + 1 + 1, j, none⟩ = false := fun j => frozen_of_row _ _ _ _ _ HCww2.out; have pww2 : ww2.cell? ⟨w.heap.size, 4, none⟩ = some (.int .i64 5) := (by rw [hpww2]; rfl); clear hb2 hpww2)
    | (refine wpList_store_row rfl _ _ _ rfl (w.heap.size + 1) _ rfl rfl 23 _ ((Below.heap_setCell ww2 ⟨w.heap.size + 1 + 1, 4, none⟩ (.int .i64 ((formL 5).number x)) (w.heap.size + 1) (by simp)).trans HZww2.out) size_ins rfl (by simp [Value.oneCell']) ?_))
  exact bodyPost_ret (v := .agg #[.int .i64 op, .int .i64 (fldZ x 11 7), .int .i64 (0), .int .i64 (0), .int .i64 ((formL 5).number x), .int .i64 (0), .bool (false), .bool (false)]) (results_cell_row (show Tryz.f55.results = #[.cell 6 23] by kernel_rfl) _ _ (w.heap.size + 1) 23 _ _ _ rfl (setRow_heap _ _ _ _ _ _ ((Below.heap_setCell ww2 ⟨w.heap.size + 1 + 1, 4, none⟩ (.int .i64 ((formL 5).number x)) (w.heap.size + 1) (by simp)).trans HZww2.out)) Tryz.underlying23 rfl size_ins) rfl ⟨rfl, below_setRow (HBww2.out.setCell (by show w.heap.size ≤ w.heap.size + 1 + 1; omega) _) (by omega) _⟩

set_option maxHeartbeats 1000000 in
theorem read_2 (op x : Int) (w : World) :
    Calls Tryz.prog 55 #[.agg #[.int .u32 28799, .bool true, .bool true, .bool false, .int .i64 1, .bool false, .bool false], .int .i64 op, .int .u32 x] w fun e w' => e = .returned (.agg #[.int .i64 op, .int .i64 (fldZ x 11 7), .int .i64 (fldZ x 19 15), .int .i64 (0), .int .i64 ((formL 1).number x), .int .i64 (0), .bool (false), .bool (false)]) ∧ Below w.heap.size w w' := by
  have HI : Hid (∀ w, Calls Tryz.prog 90 #[.int .i64 1, .int .u32 x] w fun e w' => e = .returned (.tuple #[.int .i64 ((formL 1).number x), .bool true]) ∧ Below w.heap.size w w') := Lib.hid fun w => progNumber 1 (by omega) x w
  go_enter Tryz.func55, Tryz.ntmps55
  go_wp2_with (first
    | (go_at_call 88; (with_reducible refine (reg7 _ _).mono ?_); rintro e w3 ⟨rfl, rfl⟩)
    | (go_at_call 88; (with_reducible refine (reg15 _ _).mono ?_); rintro e w3 ⟨rfl, rfl⟩)
    | (go_at_call 90; (with_reducible refine (HI.out _).mono ?_); rintro e ww2 ⟨rfl, hb2⟩; obtain ⟨HBww2, HZww2, HCww2, hpww2, hsww2⟩ := rows3 hb2; have qww20 : ww2.cell? ⟨w.heap.size + 1 + 1, 0, none⟩ = some (.int .i64 op) := (by rw [cell_of_row _ _ _ _ _ _ HCww2.out]; rfl); have qww21 : ww2.cell? ⟨w.heap.size + 1 + 1, 1, none⟩ = some (.int .i64 (fldZ x 11 7)) := (by rw [cell_of_row _ _ _ _ _ _ HCww2.out]; rfl); have qww22 : ww2.cell? ⟨w.heap.size + 1 + 1, 2, none⟩ = some (.int .i64 (fldZ x 19 15)) := (by rw [cell_of_row _ _ _ _ _ _ HCww2.out]; rfl); have qww23 : ww2.cell? ⟨w.heap.size + 1 + 1, 3, none⟩ = some (.int .i64 (0)) := (by rw [cell_of_row _ _ _ _ _ _ HCww2.out]; rfl); have qww24 : ww2.cell? ⟨w.heap.size + 1 + 1, 4, none⟩ = some (.int .i64 (0)) := (by rw [cell_of_row _ _ _ _ _ _ HCww2.out]; rfl); have qww25 : ww2.cell? ⟨w.heap.size + 1 + 1, 5, none⟩ = some (.int .i64 (0)) := (by rw [cell_of_row _ _ _ _ _ _ HCww2.out]; rfl); have qww26 : ww2.cell? ⟨w.heap.size + 1 + 1, 6, none⟩ = some (.bool (false)) := (by rw [cell_of_row _ _ _ _ _ _ HCww2.out]; rfl); have qww27 : ww2.cell? ⟨w.heap.size + 1 + 1, 7, none⟩ = some (.bool (false)) := (by rw [cell_of_row _ _ _ _ _ _ HCww2.out]; rfl); have qfww2 : ∀ j, ww2.frozen? ⟨w.heap.size + 1 + 1, j, none⟩ = false := fun j => frozen_of_row _ _ _ _ _ HCww2.out; have pww2 : ww2.cell? ⟨w.heap.size, 4, none⟩ = some (.int .i64 1) := (by rw [hpww2]; rfl); clear hb2 hpww2)
    | (refine wpList_store_row rfl _ _ _ rfl (w.heap.size + 1) _ rfl rfl 23 _ ((Below.heap_setCell ww2 ⟨w.heap.size + 1 + 1, 4, none⟩ (.int .i64 ((formL 1).number x)) (w.heap.size + 1) (by simp)).trans HZww2.out) size_ins rfl (by simp [Value.oneCell']) ?_))
  exact bodyPost_ret (v := .agg #[.int .i64 op, .int .i64 (fldZ x 11 7), .int .i64 (fldZ x 19 15), .int .i64 (0), .int .i64 ((formL 1).number x), .int .i64 (0), .bool (false), .bool (false)]) (results_cell_row (show Tryz.f55.results = #[.cell 6 23] by kernel_rfl) _ _ (w.heap.size + 1) 23 _ _ _ rfl (setRow_heap _ _ _ _ _ _ ((Below.heap_setCell ww2 ⟨w.heap.size + 1 + 1, 4, none⟩ (.int .i64 ((formL 1).number x)) (w.heap.size + 1) (by simp)).trans HZww2.out)) Tryz.underlying23 rfl size_ins) rfl ⟨rfl, below_setRow (HBww2.out.setCell (by show w.heap.size ≤ w.heap.size + 1 + 1; omega) _) (by omega) _⟩

set_option maxHeartbeats 1000000 in
theorem read_3 (op x : Int) (w : World) :
    Calls Tryz.prog 55 #[.agg #[.int .u32 28799, .bool false, .bool true, .bool true, .int .i64 3, .bool false, .bool false], .int .i64 op, .int .u32 x] w fun e w' => e = .returned (.agg #[.int .i64 op, .int .i64 (0), .int .i64 (fldZ x 19 15), .int .i64 (fldZ x 24 20), .int .i64 ((formL 3).number x), .int .i64 (0), .bool (false), .bool (false)]) ∧ Below w.heap.size w w' := by
  have HI : Hid (∀ w, Calls Tryz.prog 90 #[.int .i64 3, .int .u32 x] w fun e w' => e = .returned (.tuple #[.int .i64 ((formL 3).number x), .bool true]) ∧ Below w.heap.size w w') := Lib.hid fun w => progNumber 3 (by omega) x w
  go_enter Tryz.func55, Tryz.ntmps55
  go_wp2_with (first
    | (go_at_call 88; (with_reducible refine (reg15 _ _).mono ?_); rintro e w3 ⟨rfl, rfl⟩)
    | (go_at_call 88; (with_reducible refine (reg20 _ _).mono ?_); rintro e w3 ⟨rfl, rfl⟩)
    | (go_at_call 90; (with_reducible refine (HI.out _).mono ?_); rintro e ww2 ⟨rfl, hb2⟩; obtain ⟨HBww2, HZww2, HCww2, hpww2, hsww2⟩ := rows3 hb2; have qww20 : ww2.cell? ⟨w.heap.size + 1 + 1, 0, none⟩ = some (.int .i64 op) := (by rw [cell_of_row _ _ _ _ _ _ HCww2.out]; rfl); have qww21 : ww2.cell? ⟨w.heap.size + 1 + 1, 1, none⟩ = some (.int .i64 (0)) := (by rw [cell_of_row _ _ _ _ _ _ HCww2.out]; rfl); have qww22 : ww2.cell? ⟨w.heap.size + 1 + 1, 2, none⟩ = some (.int .i64 (fldZ x 19 15)) := (by rw [cell_of_row _ _ _ _ _ _ HCww2.out]; rfl); have qww23 : ww2.cell? ⟨w.heap.size + 1 + 1, 3, none⟩ = some (.int .i64 (fldZ x 24 20)) := (by rw [cell_of_row _ _ _ _ _ _ HCww2.out]; rfl); have qww24 : ww2.cell? ⟨w.heap.size + 1 + 1, 4, none⟩ = some (.int .i64 (0)) := (by rw [cell_of_row _ _ _ _ _ _ HCww2.out]; rfl); have qww25 : ww2.cell? ⟨w.heap.size + 1 + 1, 5, none⟩ = some (.int .i64 (0)) := (by rw [cell_of_row _ _ _ _ _ _ HCww2.out]; rfl); have qww26 : ww2.cell? ⟨w.heap.size + 1 + 1, 6, none⟩ = some (.bool (false)) := (by rw [cell_of_row _ _ _ _ _ _ HCww2.out]; rfl); have qww27 : ww2.cell? ⟨w.heap.size + 1 + 1, 7, none⟩ = some (.bool (false)) := (by rw [cell_of_row _ _ _ _ _ _ HCww2.out]; rfl); have qfww2 : ∀ j, ww2.frozen? ⟨w.heap.size + 1 + 1, j, none⟩ = false := fun j => frozen_of_row _ _ _ _ _ HCww2.out; have pww2 : ww2.cell? ⟨w.heap.size, 4, none⟩ = some (.int .i64 3) := (by rw [hpww2]; rfl); clear hb2 hpww2)
    | (refine wpList_store_row rfl _ _ _ rfl (w.heap.size + 1) _ rfl rfl 23 _ ((Below.heap_setCell ww2 ⟨w.heap.size + 1 + 1, 4, none⟩ (.int .i64 ((formL 3).number x)) (w.heap.size + 1) (by simp)).trans HZww2.out) size_ins rfl (by simp [Value.oneCell']) ?_))
  exact bodyPost_ret (v := .agg #[.int .i64 op, .int .i64 (0), .int .i64 (fldZ x 19 15), .int .i64 (fldZ x 24 20), .int .i64 ((formL 3).number x), .int .i64 (0), .bool (false), .bool (false)]) (results_cell_row (show Tryz.f55.results = #[.cell 6 23] by kernel_rfl) _ _ (w.heap.size + 1) 23 _ _ _ rfl (setRow_heap _ _ _ _ _ _ ((Below.heap_setCell ww2 ⟨w.heap.size + 1 + 1, 4, none⟩ (.int .i64 ((formL 3).number x)) (w.heap.size + 1) (by simp)).trans HZww2.out)) Tryz.underlying23 rfl size_ins) rfl ⟨rfl, below_setRow (HBww2.out.setCell (by show w.heap.size ≤ w.heap.size + 1 + 1; omega) _) (by omega) _⟩

set_option maxHeartbeats 1000000 in
theorem read_4 (op x : Int) (w : World) :
    Calls Tryz.prog 55 #[.agg #[.int .u32 28799, .bool false, .bool true, .bool true, .int .i64 2, .bool false, .bool false], .int .i64 op, .int .u32 x] w fun e w' => e = .returned (.agg #[.int .i64 op, .int .i64 (0), .int .i64 (fldZ x 19 15), .int .i64 (fldZ x 24 20), .int .i64 ((formL 2).number x), .int .i64 (0), .bool (false), .bool (false)]) ∧ Below w.heap.size w w' := by
  have HI : Hid (∀ w, Calls Tryz.prog 90 #[.int .i64 2, .int .u32 x] w fun e w' => e = .returned (.tuple #[.int .i64 ((formL 2).number x), .bool true]) ∧ Below w.heap.size w w') := Lib.hid fun w => progNumber 2 (by omega) x w
  go_enter Tryz.func55, Tryz.ntmps55
  go_wp2_with (first
    | (go_at_call 88; (with_reducible refine (reg15 _ _).mono ?_); rintro e w3 ⟨rfl, rfl⟩)
    | (go_at_call 88; (with_reducible refine (reg20 _ _).mono ?_); rintro e w3 ⟨rfl, rfl⟩)
    | (go_at_call 90; (with_reducible refine (HI.out _).mono ?_); rintro e ww2 ⟨rfl, hb2⟩; obtain ⟨HBww2, HZww2, HCww2, hpww2, hsww2⟩ := rows3 hb2; have qww20 : ww2.cell? ⟨w.heap.size + 1 + 1, 0, none⟩ = some (.int .i64 op) := (by rw [cell_of_row _ _ _ _ _ _ HCww2.out]; rfl); have qww21 : ww2.cell? ⟨w.heap.size + 1 + 1, 1, none⟩ = some (.int .i64 (0)) := (by rw [cell_of_row _ _ _ _ _ _ HCww2.out]; rfl); have qww22 : ww2.cell? ⟨w.heap.size + 1 + 1, 2, none⟩ = some (.int .i64 (fldZ x 19 15)) := (by rw [cell_of_row _ _ _ _ _ _ HCww2.out]; rfl); have qww23 : ww2.cell? ⟨w.heap.size + 1 + 1, 3, none⟩ = some (.int .i64 (fldZ x 24 20)) := (by rw [cell_of_row _ _ _ _ _ _ HCww2.out]; rfl); have qww24 : ww2.cell? ⟨w.heap.size + 1 + 1, 4, none⟩ = some (.int .i64 (0)) := (by rw [cell_of_row _ _ _ _ _ _ HCww2.out]; rfl); have qww25 : ww2.cell? ⟨w.heap.size + 1 + 1, 5, none⟩ = some (.int .i64 (0)) := (by rw [cell_of_row _ _ _ _ _ _ HCww2.out]; rfl); have qww26 : ww2.cell? ⟨w.heap.size + 1 + 1, 6, none⟩ = some (.bool (false)) := (by rw [cell_of_row _ _ _ _ _ _ HCww2.out]; rfl); have qww27 : ww2.cell? ⟨w.heap.size + 1 + 1, 7, none⟩ = some (.bool (false)) := (by rw [cell_of_row _ _ _ _ _ _ HCww2.out]; rfl); have qfww2 : ∀ j, ww2.frozen? ⟨w.heap.size + 1 + 1, j, none⟩ = false := fun j => frozen_of_row _ _ _ _ _ HCww2.out; have pww2 : ww2.cell? ⟨w.heap.size, 4, none⟩ = some (.int .i64 2) := (by rw [hpww2]; rfl); clear hb2 hpww2)
    | (refine wpList_store_row rfl _ _ _ rfl (w.heap.size + 1) _ rfl rfl 23 _ ((Below.heap_setCell ww2 ⟨w.heap.size + 1 + 1, 4, none⟩ (.int .i64 ((formL 2).number x)) (w.heap.size + 1) (by simp)).trans HZww2.out) size_ins rfl (by simp [Value.oneCell']) ?_))
  exact bodyPost_ret (v := .agg #[.int .i64 op, .int .i64 (0), .int .i64 (fldZ x 19 15), .int .i64 (fldZ x 24 20), .int .i64 ((formL 2).number x), .int .i64 (0), .bool (false), .bool (false)]) (results_cell_row (show Tryz.f55.results = #[.cell 6 23] by kernel_rfl) _ _ (w.heap.size + 1) 23 _ _ _ rfl (setRow_heap _ _ _ _ _ _ ((Below.heap_setCell ww2 ⟨w.heap.size + 1 + 1, 4, none⟩ (.int .i64 ((formL 2).number x)) (w.heap.size + 1) (by simp)).trans HZww2.out)) Tryz.underlying23 rfl size_ins) rfl ⟨rfl, below_setRow (HBww2.out.setCell (by show w.heap.size ≤ w.heap.size + 1 + 1; omega) _) (by omega) _⟩

set_option maxHeartbeats 1000000 in
theorem read_5 (op x : Int) (w : World) :
    Calls Tryz.prog 55 #[.agg #[.int .u32 4227887231, .bool true, .bool true, .bool false, .int .i64 6, .bool false, .bool false], .int .i64 op, .int .u32 x] w fun e w' => e = .returned (.agg #[.int .i64 op, .int .i64 (fldZ x 11 7), .int .i64 (fldZ x 19 15), .int .i64 (0), .int .i64 ((formL 6).number x), .int .i64 (0), .bool (false), .bool (false)]) ∧ Below w.heap.size w w' := by
  have HI : Hid (∀ w, Calls Tryz.prog 90 #[.int .i64 6, .int .u32 x] w fun e w' => e = .returned (.tuple #[.int .i64 ((formL 6).number x), .bool true]) ∧ Below w.heap.size w w') := Lib.hid fun w => progNumber 6 (by omega) x w
  go_enter Tryz.func55, Tryz.ntmps55
  go_wp2_with (first
    | (go_at_call 88; (with_reducible refine (reg7 _ _).mono ?_); rintro e w3 ⟨rfl, rfl⟩)
    | (go_at_call 88; (with_reducible refine (reg15 _ _).mono ?_); rintro e w3 ⟨rfl, rfl⟩)
    | (go_at_call 90; (with_reducible refine (HI.out _).mono ?_); rintro e ww2 ⟨rfl, hb2⟩; obtain ⟨HBww2, HZww2, HCww2, hpww2, hsww2⟩ := rows3 hb2; have qww20 : ww2.cell? ⟨w.heap.size + 1 + 1, 0, none⟩ = some (.int .i64 op) := (by rw [cell_of_row _ _ _ _ _ _ HCww2.out]; rfl); have qww21 : ww2.cell? ⟨w.heap.size + 1 + 1, 1, none⟩ = some (.int .i64 (fldZ x 11 7)) := (by rw [cell_of_row _ _ _ _ _ _ HCww2.out]; rfl); have qww22 : ww2.cell? ⟨w.heap.size + 1 + 1, 2, none⟩ = some (.int .i64 (fldZ x 19 15)) := (by rw [cell_of_row _ _ _ _ _ _ HCww2.out]; rfl); have qww23 : ww2.cell? ⟨w.heap.size + 1 + 1, 3, none⟩ = some (.int .i64 (0)) := (by rw [cell_of_row _ _ _ _ _ _ HCww2.out]; rfl); have qww24 : ww2.cell? ⟨w.heap.size + 1 + 1, 4, none⟩ = some (.int .i64 (0)) := (by rw [cell_of_row _ _ _ _ _ _ HCww2.out]; rfl); have qww25 : ww2.cell? ⟨w.heap.size + 1 + 1, 5, none⟩ = some (.int .i64 (0)) := (by rw [cell_of_row _ _ _ _ _ _ HCww2.out]; rfl); have qww26 : ww2.cell? ⟨w.heap.size + 1 + 1, 6, none⟩ = some (.bool (false)) := (by rw [cell_of_row _ _ _ _ _ _ HCww2.out]; rfl); have qww27 : ww2.cell? ⟨w.heap.size + 1 + 1, 7, none⟩ = some (.bool (false)) := (by rw [cell_of_row _ _ _ _ _ _ HCww2.out]; rfl); have qfww2 : ∀ j, ww2.frozen? ⟨w.heap.size + 1 + 1, j, none⟩ = false := fun j => frozen_of_row _ _ _ _ _ HCww2.out; have pww2 : ww2.cell? ⟨w.heap.size, 4, none⟩ = some (.int .i64 6) := (by rw [hpww2]; rfl); clear hb2 hpww2)
    | (refine wpList_store_row rfl _ _ _ rfl (w.heap.size + 1) _ rfl rfl 23 _ ((Below.heap_setCell ww2 ⟨w.heap.size + 1 + 1, 4, none⟩ (.int .i64 ((formL 6).number x)) (w.heap.size + 1) (by simp)).trans HZww2.out) size_ins rfl (by simp [Value.oneCell']) ?_))
  exact bodyPost_ret (v := .agg #[.int .i64 op, .int .i64 (fldZ x 11 7), .int .i64 (fldZ x 19 15), .int .i64 (0), .int .i64 ((formL 6).number x), .int .i64 (0), .bool (false), .bool (false)]) (results_cell_row (show Tryz.f55.results = #[.cell 6 23] by kernel_rfl) _ _ (w.heap.size + 1) 23 _ _ _ rfl (setRow_heap _ _ _ _ _ _ ((Below.heap_setCell ww2 ⟨w.heap.size + 1 + 1, 4, none⟩ (.int .i64 ((formL 6).number x)) (w.heap.size + 1) (by simp)).trans HZww2.out)) Tryz.underlying23 rfl size_ins) rfl ⟨rfl, below_setRow (HBww2.out.setCell (by show w.heap.size ≤ w.heap.size + 1 + 1; omega) _) (by omega) _⟩

set_option maxHeartbeats 1000000 in
theorem read_6 (op x : Int) (w : World) :
    Calls Tryz.prog 55 #[.agg #[.int .u32 4261441663, .bool true, .bool true, .bool false, .int .i64 7, .bool false, .bool false], .int .i64 op, .int .u32 x] w fun e w' => e = .returned (.agg #[.int .i64 op, .int .i64 (fldZ x 11 7), .int .i64 (fldZ x 19 15), .int .i64 (0), .int .i64 ((formL 7).number x), .int .i64 (0), .bool (false), .bool (false)]) ∧ Below w.heap.size w w' := by
  have HI : Hid (∀ w, Calls Tryz.prog 90 #[.int .i64 7, .int .u32 x] w fun e w' => e = .returned (.tuple #[.int .i64 ((formL 7).number x), .bool true]) ∧ Below w.heap.size w w') := Lib.hid fun w => progNumber 7 (by omega) x w
  go_enter Tryz.func55, Tryz.ntmps55
  go_wp2_with (first
    | (go_at_call 88; (with_reducible refine (reg7 _ _).mono ?_); rintro e w3 ⟨rfl, rfl⟩)
    | (go_at_call 88; (with_reducible refine (reg15 _ _).mono ?_); rintro e w3 ⟨rfl, rfl⟩)
    | (go_at_call 90; (with_reducible refine (HI.out _).mono ?_); rintro e ww2 ⟨rfl, hb2⟩; obtain ⟨HBww2, HZww2, HCww2, hpww2, hsww2⟩ := rows3 hb2; have qww20 : ww2.cell? ⟨w.heap.size + 1 + 1, 0, none⟩ = some (.int .i64 op) := (by rw [cell_of_row _ _ _ _ _ _ HCww2.out]; rfl); have qww21 : ww2.cell? ⟨w.heap.size + 1 + 1, 1, none⟩ = some (.int .i64 (fldZ x 11 7)) := (by rw [cell_of_row _ _ _ _ _ _ HCww2.out]; rfl); have qww22 : ww2.cell? ⟨w.heap.size + 1 + 1, 2, none⟩ = some (.int .i64 (fldZ x 19 15)) := (by rw [cell_of_row _ _ _ _ _ _ HCww2.out]; rfl); have qww23 : ww2.cell? ⟨w.heap.size + 1 + 1, 3, none⟩ = some (.int .i64 (0)) := (by rw [cell_of_row _ _ _ _ _ _ HCww2.out]; rfl); have qww24 : ww2.cell? ⟨w.heap.size + 1 + 1, 4, none⟩ = some (.int .i64 (0)) := (by rw [cell_of_row _ _ _ _ _ _ HCww2.out]; rfl); have qww25 : ww2.cell? ⟨w.heap.size + 1 + 1, 5, none⟩ = some (.int .i64 (0)) := (by rw [cell_of_row _ _ _ _ _ _ HCww2.out]; rfl); have qww26 : ww2.cell? ⟨w.heap.size + 1 + 1, 6, none⟩ = some (.bool (false)) := (by rw [cell_of_row _ _ _ _ _ _ HCww2.out]; rfl); have qww27 : ww2.cell? ⟨w.heap.size + 1 + 1, 7, none⟩ = some (.bool (false)) := (by rw [cell_of_row _ _ _ _ _ _ HCww2.out]; rfl); have qfww2 : ∀ j, ww2.frozen? ⟨w.heap.size + 1 + 1, j, none⟩ = false := fun j => frozen_of_row _ _ _ _ _ HCww2.out; have pww2 : ww2.cell? ⟨w.heap.size, 4, none⟩ = some (.int .i64 7) := (by rw [hpww2]; rfl); clear hb2 hpww2)
    | (refine wpList_store_row rfl _ _ _ rfl (w.heap.size + 1) _ rfl rfl 23 _ ((Below.heap_setCell ww2 ⟨w.heap.size + 1 + 1, 4, none⟩ (.int .i64 ((formL 7).number x)) (w.heap.size + 1) (by simp)).trans HZww2.out) size_ins rfl (by simp [Value.oneCell']) ?_))
  exact bodyPost_ret (v := .agg #[.int .i64 op, .int .i64 (fldZ x 11 7), .int .i64 (fldZ x 19 15), .int .i64 (0), .int .i64 ((formL 7).number x), .int .i64 (0), .bool (false), .bool (false)]) (results_cell_row (show Tryz.f55.results = #[.cell 6 23] by kernel_rfl) _ _ (w.heap.size + 1) 23 _ _ _ rfl (setRow_heap _ _ _ _ _ _ ((Below.heap_setCell ww2 ⟨w.heap.size + 1 + 1, 4, none⟩ (.int .i64 ((formL 7).number x)) (w.heap.size + 1) (by simp)).trans HZww2.out)) Tryz.underlying23 rfl size_ins) rfl ⟨rfl, below_setRow (HBww2.out.setCell (by show w.heap.size ≤ w.heap.size + 1 + 1; omega) _) (by omega) _⟩

set_option maxHeartbeats 1000000 in
theorem read_7 (op x : Int) (w : World) :
    Calls Tryz.prog 55 #[.agg #[.int .u32 4261441663, .bool true, .bool true, .bool true, .int .i64 0, .bool false, .bool false], .int .i64 op, .int .u32 x] w fun e w' => e = .returned (.agg #[.int .i64 op, .int .i64 (fldZ x 11 7), .int .i64 (fldZ x 19 15), .int .i64 (fldZ x 24 20), .int .i64 (0), .int .i64 (0), .bool (false), .bool (false)]) ∧ Below w.heap.size w w' := by
  have HI : Hid (∀ w, Calls Tryz.prog 90 #[.int .i64 0, .int .u32 x] w fun e w' => e = .returned (.tuple #[.int .i64 (0), .bool false]) ∧ Below w.heap.size w w') := Lib.hid fun w => progNumber_no 0 (by omega) x w
  go_enter Tryz.func55, Tryz.ntmps55
  go_wp2_with (first
    | (go_at_call 88; (with_reducible refine (reg7 _ _).mono ?_); rintro e w3 ⟨rfl, rfl⟩)
    | (go_at_call 88; (with_reducible refine (reg15 _ _).mono ?_); rintro e w3 ⟨rfl, rfl⟩)
    | (go_at_call 88; (with_reducible refine (reg20 _ _).mono ?_); rintro e w3 ⟨rfl, rfl⟩)
    | (go_at_call 90; (with_reducible refine (HI.out _).mono ?_); rintro e ww2 ⟨rfl, hb2⟩; obtain ⟨HBww2, HZww2, HCww2, hpww2, hsww2⟩ := rows3 hb2; have qww20 : ww2.cell? ⟨w.heap.size + 1 + 1, 0, none⟩ = some (.int .i64 op) := (by rw [cell_of_row _ _ _ _ _ _ HCww2.out]; rfl); have qww21 : ww2.cell? ⟨w.heap.size + 1 + 1, 1, none⟩ = some (.int .i64 (fldZ x 11 7)) := (by rw [cell_of_row _ _ _ _ _ _ HCww2.out]; rfl); have qww22 : ww2.cell? ⟨w.heap.size + 1 + 1, 2, none⟩ = some (.int .i64 (fldZ x 19 15)) := (by rw [cell_of_row _ _ _ _ _ _ HCww2.out]; rfl); have qww23 : ww2.cell? ⟨w.heap.size + 1 + 1, 3, none⟩ = some (.int .i64 (fldZ x 24 20)) := (by rw [cell_of_row _ _ _ _ _ _ HCww2.out]; rfl); have qww24 : ww2.cell? ⟨w.heap.size + 1 + 1, 4, none⟩ = some (.int .i64 (0)) := (by rw [cell_of_row _ _ _ _ _ _ HCww2.out]; rfl); have qww25 : ww2.cell? ⟨w.heap.size + 1 + 1, 5, none⟩ = some (.int .i64 (0)) := (by rw [cell_of_row _ _ _ _ _ _ HCww2.out]; rfl); have qww26 : ww2.cell? ⟨w.heap.size + 1 + 1, 6, none⟩ = some (.bool (false)) := (by rw [cell_of_row _ _ _ _ _ _ HCww2.out]; rfl); have qww27 : ww2.cell? ⟨w.heap.size + 1 + 1, 7, none⟩ = some (.bool (false)) := (by rw [cell_of_row _ _ _ _ _ _ HCww2.out]; rfl); have qfww2 : ∀ j, ww2.frozen? ⟨w.heap.size + 1 + 1, j, none⟩ = false := fun j => frozen_of_row _ _ _ _ _ HCww2.out; have pww2 : ww2.cell? ⟨w.heap.size, 4, none⟩ = some (.int .i64 0) := (by rw [hpww2]; rfl); clear hb2 hpww2)
    | (refine wpList_store_row rfl _ _ _ rfl (w.heap.size + 1) _ rfl rfl 23 _ ((Below.heap_setCell ww2 ⟨w.heap.size + 1 + 1, 4, none⟩ (.int .i64 (0)) (w.heap.size + 1) (by simp)).trans HZww2.out) size_ins rfl (by simp [Value.oneCell']) ?_))
  exact bodyPost_ret (v := .agg #[.int .i64 op, .int .i64 (fldZ x 11 7), .int .i64 (fldZ x 19 15), .int .i64 (fldZ x 24 20), .int .i64 (0), .int .i64 (0), .bool (false), .bool (false)]) (results_cell_row (show Tryz.f55.results = #[.cell 6 23] by kernel_rfl) _ _ (w.heap.size + 1) 23 _ _ _ rfl (setRow_heap _ _ _ _ _ _ ((Below.heap_setCell ww2 ⟨w.heap.size + 1 + 1, 4, none⟩ (.int .i64 (0)) (w.heap.size + 1) (by simp)).trans HZww2.out)) Tryz.underlying23 rfl size_ins) rfl ⟨rfl, below_setRow (HBww2.out.setCell (by show w.heap.size ≤ w.heap.size + 1 + 1; omega) _) (by omega) _⟩

set_option maxHeartbeats 1000000 in
theorem read_8 (op x : Int) (w : World) :
    Calls Tryz.prog 55 #[.agg #[.int .u32 4193284223, .bool true, .bool true, .bool false, .int .i64 0, .bool false, .bool true], .int .i64 op, .int .u32 x] w fun e w' => e = .returned (.agg #[.int .i64 op, .int .i64 (fldZ x 11 7), .int .i64 (fldZ x 19 15), .int .i64 (0), .int .i64 (0), .int .i64 (0), .bool (fldZ x 26 26 == 1), .bool (fldZ x 25 25 == 1)]) ∧ Below w.heap.size w w' := by
  have HI : Hid (∀ w, Calls Tryz.prog 90 #[.int .i64 0, .int .u32 x] w fun e w' => e = .returned (.tuple #[.int .i64 (0), .bool false]) ∧ Below w.heap.size w w') := Lib.hid fun w => progNumber_no 0 (by omega) x w
  go_enter Tryz.func55, Tryz.ntmps55
  go_wp2_with (first
    | (go_at_call 88; (with_reducible refine (reg7 _ _).mono ?_); rintro e w3 ⟨rfl, rfl⟩)
    | (go_at_call 88; (with_reducible refine (reg15 _ _).mono ?_); rintro e w3 ⟨rfl, rfl⟩)
    | (go_at_call 89; (with_reducible refine (field_any _ _ _ _).mono ?_); rintro e w3 ⟨rfl, rfl⟩)
    | (go_at_call 90; (with_reducible refine (HI.out _).mono ?_); rintro e ww2 ⟨rfl, hb2⟩; obtain ⟨HBww2, HZww2, HCww2, hpww2, hsww2⟩ := rows3 hb2; have qww20 : ww2.cell? ⟨w.heap.size + 1 + 1, 0, none⟩ = some (.int .i64 op) := (by rw [cell_of_row _ _ _ _ _ _ HCww2.out]; rfl); have qww21 : ww2.cell? ⟨w.heap.size + 1 + 1, 1, none⟩ = some (.int .i64 (fldZ x 11 7)) := (by rw [cell_of_row _ _ _ _ _ _ HCww2.out]; rfl); have qww22 : ww2.cell? ⟨w.heap.size + 1 + 1, 2, none⟩ = some (.int .i64 (fldZ x 19 15)) := (by rw [cell_of_row _ _ _ _ _ _ HCww2.out]; rfl); have qww23 : ww2.cell? ⟨w.heap.size + 1 + 1, 3, none⟩ = some (.int .i64 (0)) := (by rw [cell_of_row _ _ _ _ _ _ HCww2.out]; rfl); have qww24 : ww2.cell? ⟨w.heap.size + 1 + 1, 4, none⟩ = some (.int .i64 (0)) := (by rw [cell_of_row _ _ _ _ _ _ HCww2.out]; rfl); have qww25 : ww2.cell? ⟨w.heap.size + 1 + 1, 5, none⟩ = some (.int .i64 (0)) := (by rw [cell_of_row _ _ _ _ _ _ HCww2.out]; rfl); have qww26 : ww2.cell? ⟨w.heap.size + 1 + 1, 6, none⟩ = some (.bool (fldZ x 26 26 == 1)) := (by rw [cell_of_row _ _ _ _ _ _ HCww2.out]; rfl); have qww27 : ww2.cell? ⟨w.heap.size + 1 + 1, 7, none⟩ = some (.bool (fldZ x 25 25 == 1)) := (by rw [cell_of_row _ _ _ _ _ _ HCww2.out]; rfl); have qfww2 : ∀ j, ww2.frozen? ⟨w.heap.size + 1 + 1, j, none⟩ = false := fun j => frozen_of_row _ _ _ _ _ HCww2.out; have pww2 : ww2.cell? ⟨w.heap.size, 4, none⟩ = some (.int .i64 0) := (by rw [hpww2]; rfl); clear hb2 hpww2)
    | (refine wpList_store_row rfl _ _ _ rfl (w.heap.size + 1) _ rfl rfl 23 _ ((Below.heap_setCell ww2 ⟨w.heap.size + 1 + 1, 4, none⟩ (.int .i64 (0)) (w.heap.size + 1) (by simp)).trans HZww2.out) size_ins rfl (by simp [Value.oneCell']) ?_))
  exact bodyPost_ret (v := .agg #[.int .i64 op, .int .i64 (fldZ x 11 7), .int .i64 (fldZ x 19 15), .int .i64 (0), .int .i64 (0), .int .i64 (0), .bool (fldZ x 26 26 == 1), .bool (fldZ x 25 25 == 1)]) (results_cell_row (show Tryz.f55.results = #[.cell 6 23] by kernel_rfl) _ _ (w.heap.size + 1) 23 _ _ _ rfl (setRow_heap _ _ _ _ _ _ ((Below.heap_setCell ww2 ⟨w.heap.size + 1 + 1, 4, none⟩ (.int .i64 (0)) (w.heap.size + 1) (by simp)).trans HZww2.out)) Tryz.underlying23 rfl size_ins) rfl ⟨rfl, below_setRow (HBww2.out.setCell (by show w.heap.size ≤ w.heap.size + 1 + 1; omega) _) (by omega) _⟩

set_option maxHeartbeats 1000000 in
theorem read_9 (op x : Int) (w : World) :
    Calls Tryz.prog 55 #[.agg #[.int .u32 4160778367, .bool true, .bool true, .bool true, .int .i64 0, .bool false, .bool true], .int .i64 op, .int .u32 x] w fun e w' => e = .returned (.agg #[.int .i64 op, .int .i64 (fldZ x 11 7), .int .i64 (fldZ x 19 15), .int .i64 (fldZ x 24 20), .int .i64 (0), .int .i64 (0), .bool (fldZ x 26 26 == 1), .bool (fldZ x 25 25 == 1)]) ∧ Below w.heap.size w w' := by
  have HI : Hid (∀ w, Calls Tryz.prog 90 #[.int .i64 0, .int .u32 x] w fun e w' => e = .returned (.tuple #[.int .i64 (0), .bool false]) ∧ Below w.heap.size w w') := Lib.hid fun w => progNumber_no 0 (by omega) x w
  go_enter Tryz.func55, Tryz.ntmps55
  go_wp2_with (first
    | (go_at_call 88; (with_reducible refine (reg7 _ _).mono ?_); rintro e w3 ⟨rfl, rfl⟩)
    | (go_at_call 88; (with_reducible refine (reg15 _ _).mono ?_); rintro e w3 ⟨rfl, rfl⟩)
    | (go_at_call 88; (with_reducible refine (reg20 _ _).mono ?_); rintro e w3 ⟨rfl, rfl⟩)
    | (go_at_call 89; (with_reducible refine (field_any _ _ _ _).mono ?_); rintro e w3 ⟨rfl, rfl⟩)
    | (go_at_call 90; (with_reducible refine (HI.out _).mono ?_); rintro e ww2 ⟨rfl, hb2⟩; obtain ⟨HBww2, HZww2, HCww2, hpww2, hsww2⟩ := rows3 hb2; have qww20 : ww2.cell? ⟨w.heap.size + 1 + 1, 0, none⟩ = some (.int .i64 op) := (by rw [cell_of_row _ _ _ _ _ _ HCww2.out]; rfl); have qww21 : ww2.cell? ⟨w.heap.size + 1 + 1, 1, none⟩ = some (.int .i64 (fldZ x 11 7)) := (by rw [cell_of_row _ _ _ _ _ _ HCww2.out]; rfl); have qww22 : ww2.cell? ⟨w.heap.size + 1 + 1, 2, none⟩ = some (.int .i64 (fldZ x 19 15)) := (by rw [cell_of_row _ _ _ _ _ _ HCww2.out]; rfl); have qww23 : ww2.cell? ⟨w.heap.size + 1 + 1, 3, none⟩ = some (.int .i64 (fldZ x 24 20)) := (by rw [cell_of_row _ _ _ _ _ _ HCww2.out]; rfl); have qww24 : ww2.cell? ⟨w.heap.size + 1 + 1, 4, none⟩ = some (.int .i64 (0)) := (by rw [cell_of_row _ _ _ _ _ _ HCww2.out]; rfl); have qww25 : ww2.cell? ⟨w.heap.size + 1 + 1, 5, none⟩ = some (.int .i64 (0)) := (by rw [cell_of_row _ _ _ _ _ _ HCww2.out]; rfl); have qww26 : ww2.cell? ⟨w.heap.size + 1 + 1, 6, none⟩ = some (.bool (fldZ x 26 26 == 1)) := (by rw [cell_of_row _ _ _ _ _ _ HCww2.out]; rfl); have qww27 : ww2.cell? ⟨w.heap.size + 1 + 1, 7, none⟩ = some (.bool (fldZ x 25 25 == 1)) := (by rw [cell_of_row _ _ _ _ _ _ HCww2.out]; rfl); have qfww2 : ∀ j, ww2.frozen? ⟨w.heap.size + 1 + 1, j, none⟩ = false := fun j => frozen_of_row _ _ _ _ _ HCww2.out; have pww2 : ww2.cell? ⟨w.heap.size, 4, none⟩ = some (.int .i64 0) := (by rw [hpww2]; rfl); clear hb2 hpww2)
    | (refine wpList_store_row rfl _ _ _ rfl (w.heap.size + 1) _ rfl rfl 23 _ ((Below.heap_setCell ww2 ⟨w.heap.size + 1 + 1, 4, none⟩ (.int .i64 (0)) (w.heap.size + 1) (by simp)).trans HZww2.out) size_ins rfl (by simp [Value.oneCell']) ?_))
  exact bodyPost_ret (v := .agg #[.int .i64 op, .int .i64 (fldZ x 11 7), .int .i64 (fldZ x 19 15), .int .i64 (fldZ x 24 20), .int .i64 (0), .int .i64 (0), .bool (fldZ x 26 26 == 1), .bool (fldZ x 25 25 == 1)]) (results_cell_row (show Tryz.f55.results = #[.cell 6 23] by kernel_rfl) _ _ (w.heap.size + 1) 23 _ _ _ rfl (setRow_heap _ _ _ _ _ _ ((Below.heap_setCell ww2 ⟨w.heap.size + 1 + 1, 4, none⟩ (.int .i64 (0)) (w.heap.size + 1) (by simp)).trans HZww2.out)) Tryz.underlying23 rfl size_ins) rfl ⟨rfl, below_setRow (HBww2.out.setCell (by show w.heap.size ≤ w.heap.size + 1 + 1; omega) _) (by omega) _⟩

set_option maxHeartbeats 1000000 in
theorem read_10 (op x : Int) (w : World) :
    Calls Tryz.prog 55 #[.agg #[.int .u32 4294967295, .bool false, .bool false, .bool false, .int .i64 0, .bool false, .bool false], .int .i64 op, .int .u32 x] w fun e w' => e = .returned (.agg #[.int .i64 op, .int .i64 (0), .int .i64 (0), .int .i64 (0), .int .i64 (0), .int .i64 (0), .bool (false), .bool (false)]) ∧ Below w.heap.size w w' := by
  have HI : Hid (∀ w, Calls Tryz.prog 90 #[.int .i64 0, .int .u32 x] w fun e w' => e = .returned (.tuple #[.int .i64 (0), .bool false]) ∧ Below w.heap.size w w') := Lib.hid fun w => progNumber_no 0 (by omega) x w
  go_enter Tryz.func55, Tryz.ntmps55
  go_wp2_with (first
    | (go_at_call 90; (with_reducible refine (HI.out _).mono ?_); rintro e ww2 ⟨rfl, hb2⟩; obtain ⟨HBww2, HZww2, HCww2, hpww2, hsww2⟩ := rows3 hb2; have qww20 : ww2.cell? ⟨w.heap.size + 1 + 1, 0, none⟩ = some (.int .i64 op) := (by rw [cell_of_row _ _ _ _ _ _ HCww2.out]; rfl); have qww21 : ww2.cell? ⟨w.heap.size + 1 + 1, 1, none⟩ = some (.int .i64 (0)) := (by rw [cell_of_row _ _ _ _ _ _ HCww2.out]; rfl); have qww22 : ww2.cell? ⟨w.heap.size + 1 + 1, 2, none⟩ = some (.int .i64 (0)) := (by rw [cell_of_row _ _ _ _ _ _ HCww2.out]; rfl); have qww23 : ww2.cell? ⟨w.heap.size + 1 + 1, 3, none⟩ = some (.int .i64 (0)) := (by rw [cell_of_row _ _ _ _ _ _ HCww2.out]; rfl); have qww24 : ww2.cell? ⟨w.heap.size + 1 + 1, 4, none⟩ = some (.int .i64 (0)) := (by rw [cell_of_row _ _ _ _ _ _ HCww2.out]; rfl); have qww25 : ww2.cell? ⟨w.heap.size + 1 + 1, 5, none⟩ = some (.int .i64 (0)) := (by rw [cell_of_row _ _ _ _ _ _ HCww2.out]; rfl); have qww26 : ww2.cell? ⟨w.heap.size + 1 + 1, 6, none⟩ = some (.bool (false)) := (by rw [cell_of_row _ _ _ _ _ _ HCww2.out]; rfl); have qww27 : ww2.cell? ⟨w.heap.size + 1 + 1, 7, none⟩ = some (.bool (false)) := (by rw [cell_of_row _ _ _ _ _ _ HCww2.out]; rfl); have qfww2 : ∀ j, ww2.frozen? ⟨w.heap.size + 1 + 1, j, none⟩ = false := fun j => frozen_of_row _ _ _ _ _ HCww2.out; have pww2 : ww2.cell? ⟨w.heap.size, 4, none⟩ = some (.int .i64 0) := (by rw [hpww2]; rfl); clear hb2 hpww2)
    | (refine wpList_store_row rfl _ _ _ rfl (w.heap.size + 1) _ rfl rfl 23 _ ((Below.heap_setCell ww2 ⟨w.heap.size + 1 + 1, 4, none⟩ (.int .i64 (0)) (w.heap.size + 1) (by simp)).trans HZww2.out) size_ins rfl (by simp [Value.oneCell']) ?_))
  exact bodyPost_ret (v := .agg #[.int .i64 op, .int .i64 (0), .int .i64 (0), .int .i64 (0), .int .i64 (0), .int .i64 (0), .bool (false), .bool (false)]) (results_cell_row (show Tryz.f55.results = #[.cell 6 23] by kernel_rfl) _ _ (w.heap.size + 1) 23 _ _ _ rfl (setRow_heap _ _ _ _ _ _ ((Below.heap_setCell ww2 ⟨w.heap.size + 1 + 1, 4, none⟩ (.int .i64 (0)) (w.heap.size + 1) (by simp)).trans HZww2.out)) Tryz.underlying23 rfl size_ins) rfl ⟨rfl, below_setRow (HBww2.out.setCell (by show w.heap.size ≤ w.heap.size + 1 + 1; omega) _) (by omega) _⟩

set_option maxHeartbeats 1000000 in
theorem read_11 (op x : Int) (w : World) :
    Calls Tryz.prog 55 #[.agg #[.int .u32 4261445631, .bool false, .bool true, .bool true, .int .i64 0, .bool false, .bool false], .int .i64 op, .int .u32 x] w fun e w' => e = .returned (.agg #[.int .i64 op, .int .i64 (0), .int .i64 (fldZ x 19 15), .int .i64 (fldZ x 24 20), .int .i64 (0), .int .i64 (0), .bool (false), .bool (false)]) ∧ Below w.heap.size w w' := by
  have HI : Hid (∀ w, Calls Tryz.prog 90 #[.int .i64 0, .int .u32 x] w fun e w' => e = .returned (.tuple #[.int .i64 (0), .bool false]) ∧ Below w.heap.size w w') := Lib.hid fun w => progNumber_no 0 (by omega) x w
  go_enter Tryz.func55, Tryz.ntmps55
  go_wp2_with (first
    | (go_at_call 88; (with_reducible refine (reg15 _ _).mono ?_); rintro e w3 ⟨rfl, rfl⟩)
    | (go_at_call 88; (with_reducible refine (reg20 _ _).mono ?_); rintro e w3 ⟨rfl, rfl⟩)
    | (go_at_call 90; (with_reducible refine (HI.out _).mono ?_); rintro e ww2 ⟨rfl, hb2⟩; obtain ⟨HBww2, HZww2, HCww2, hpww2, hsww2⟩ := rows3 hb2; have qww20 : ww2.cell? ⟨w.heap.size + 1 + 1, 0, none⟩ = some (.int .i64 op) := (by rw [cell_of_row _ _ _ _ _ _ HCww2.out]; rfl); have qww21 : ww2.cell? ⟨w.heap.size + 1 + 1, 1, none⟩ = some (.int .i64 (0)) := (by rw [cell_of_row _ _ _ _ _ _ HCww2.out]; rfl); have qww22 : ww2.cell? ⟨w.heap.size + 1 + 1, 2, none⟩ = some (.int .i64 (fldZ x 19 15)) := (by rw [cell_of_row _ _ _ _ _ _ HCww2.out]; rfl); have qww23 : ww2.cell? ⟨w.heap.size + 1 + 1, 3, none⟩ = some (.int .i64 (fldZ x 24 20)) := (by rw [cell_of_row _ _ _ _ _ _ HCww2.out]; rfl); have qww24 : ww2.cell? ⟨w.heap.size + 1 + 1, 4, none⟩ = some (.int .i64 (0)) := (by rw [cell_of_row _ _ _ _ _ _ HCww2.out]; rfl); have qww25 : ww2.cell? ⟨w.heap.size + 1 + 1, 5, none⟩ = some (.int .i64 (0)) := (by rw [cell_of_row _ _ _ _ _ _ HCww2.out]; rfl); have qww26 : ww2.cell? ⟨w.heap.size + 1 + 1, 6, none⟩ = some (.bool (false)) := (by rw [cell_of_row _ _ _ _ _ _ HCww2.out]; rfl); have qww27 : ww2.cell? ⟨w.heap.size + 1 + 1, 7, none⟩ = some (.bool (false)) := (by rw [cell_of_row _ _ _ _ _ _ HCww2.out]; rfl); have qfww2 : ∀ j, ww2.frozen? ⟨w.heap.size + 1 + 1, j, none⟩ = false := fun j => frozen_of_row _ _ _ _ _ HCww2.out; have pww2 : ww2.cell? ⟨w.heap.size, 4, none⟩ = some (.int .i64 0) := (by rw [hpww2]; rfl); clear hb2 hpww2)
    | (refine wpList_store_row rfl _ _ _ rfl (w.heap.size + 1) _ rfl rfl 23 _ ((Below.heap_setCell ww2 ⟨w.heap.size + 1 + 1, 4, none⟩ (.int .i64 (0)) (w.heap.size + 1) (by simp)).trans HZww2.out) size_ins rfl (by simp [Value.oneCell']) ?_))
  exact bodyPost_ret (v := .agg #[.int .i64 op, .int .i64 (0), .int .i64 (fldZ x 19 15), .int .i64 (fldZ x 24 20), .int .i64 (0), .int .i64 (0), .bool (false), .bool (false)]) (results_cell_row (show Tryz.f55.results = #[.cell 6 23] by kernel_rfl) _ _ (w.heap.size + 1) 23 _ _ _ rfl (setRow_heap _ _ _ _ _ _ ((Below.heap_setCell ww2 ⟨w.heap.size + 1 + 1, 4, none⟩ (.int .i64 (0)) (w.heap.size + 1) (by simp)).trans HZww2.out)) Tryz.underlying23 rfl size_ins) rfl ⟨rfl, below_setRow (HBww2.out.setCell (by show w.heap.size ≤ w.heap.size + 1 + 1; omega) _) (by omega) _⟩

set_option maxHeartbeats 1000000 in
theorem read_12 (op x : Int) (w : World) :
    Calls Tryz.prog 55 #[.agg #[.int .u32 28799, .bool true, .bool true, .bool false, .int .i64 0, .bool true, .bool false], .int .i64 op, .int .u32 x] w fun e w' => e = .returned (.agg #[.int .i64 op, .int .i64 (fldZ x 11 7), .int .i64 (fldZ x 19 15), .int .i64 (0), .int .i64 (0), .int .i64 (fldZ x 31 20), .bool (false), .bool (false)]) ∧ Below w.heap.size w w' := by
  have HI : Hid (∀ w, Calls Tryz.prog 90 #[.int .i64 0, .int .u32 x] w fun e w' => e = .returned (.tuple #[.int .i64 (0), .bool false]) ∧ Below w.heap.size w w') := Lib.hid fun w => progNumber_no 0 (by omega) x w
  go_enter Tryz.func55, Tryz.ntmps55
  go_wp2_with (first
    | (go_at_call 88; (with_reducible refine (reg7 _ _).mono ?_); rintro e w3 ⟨rfl, rfl⟩)
    | (go_at_call 88; (with_reducible refine (reg15 _ _).mono ?_); rintro e w3 ⟨rfl, rfl⟩)
    | (go_at_call 90; (with_reducible refine (num8 _ _).mono ?_); rintro e ww1 ⟨rfl, hb1⟩; obtain ⟨HBww1, HZww1, HCww1, hpww1, hsww1⟩ := rows3 hb1; have qww10 : ww1.cell? ⟨w.heap.size + 1 + 1, 0, none⟩ = some (.int .i64 op) := (by rw [cell_of_row _ _ _ _ _ _ HCww1.out]; rfl); have qww11 : ww1.cell? ⟨w.heap.size + 1 + 1, 1, none⟩ = some (.int .i64 (fldZ x 11 7)) := (by rw [cell_of_row _ _ _ _ _ _ HCww1.out]; rfl); have qww12 : ww1.cell? ⟨w.heap.size + 1 + 1, 2, none⟩ = some (.int .i64 (fldZ x 19 15)) := (by rw [cell_of_row _ _ _ _ _ _ HCww1.out]; rfl); have qww13 : ww1.cell? ⟨w.heap.size + 1 + 1, 3, none⟩ = some (.int .i64 (0)) := (by rw [cell_of_row _ _ _ _ _ _ HCww1.out]; rfl); have qww14 : ww1.cell? ⟨w.heap.size + 1 + 1, 4, none⟩ = some (.int .i64 (0)) := (by rw [cell_of_row _ _ _ _ _ _ HCww1.out]; rfl); have qww15 : ww1.cell? ⟨w.heap.size + 1 + 1, 5, none⟩ = some (.int .i64 (0)) := (by rw [cell_of_row _ _ _ _ _ _ HCww1.out]; rfl); have qww16 : ww1.cell? ⟨w.heap.size + 1 + 1, 6, none⟩ = some (.bool (false)) := (by rw [cell_of_row _ _ _ _ _ _ HCww1.out]; rfl); have qww17 : ww1.cell? ⟨w.heap.size + 1 + 1, 7, none⟩ = some (.bool (false)) := (by rw [cell_of_row _ _ _ _ _ _ HCww1.out]; rfl); have qfww1 : ∀ j, ww1.frozen? ⟨w.heap.size + 1 + 1, j, none⟩ = false := fun j => frozen_of_row _ _ _ _ _ HCww1.out; have pww1 : ww1.cell? ⟨w.heap.size, 4, none⟩ = some (.int .i64 0) := (by rw [hpww1]; rfl); clear hb1 hpww1)
    | (go_at_call 90; (with_reducible refine (HI.out _).mono ?_); rintro e ww2 ⟨rfl, hb2⟩; have HBww2 : Hid (Below w.heap.size w ww2) := Lib.hid ((HBww1.out.setCell (by show w.heap.size ≤ w.heap.size + 1 + 1; omega) _).trans (hb2.mono (by rw [World.size_setCell]; omega))); have HZww2 : Hid (ww2.heap[w.heap.size + 1]? = some (.cells #[.int .i64 0, .int .i64 0, .int .i64 0, .int .i64 0, .int .i64 0, .int .i64 0, .bool false, .bool false] 23 (0, 0))) := Lib.hid ((hb2.block (w.heap.size + 1) (by rw [World.size_setCell]; omega)).trans ((Below.heap_setCell ww1 ⟨w.heap.size + 1 + 1, 5, none⟩ (.int .i64 (fldZ x 31 20)) (w.heap.size + 1) (by simp)).trans HZww1.out)); have qww20 : ww2.cell? ⟨w.heap.size + 1 + 1, 0, none⟩ = some (.int .i64 op) := ((hb2.cell (p := ⟨w.heap.size + 1 + 1, 0, none⟩) (by rw [World.size_setCell]; omega)).trans (by go_simp)); have qww21 : ww2.cell? ⟨w.heap.size + 1 + 1, 1, none⟩ = some (.int .i64 (fldZ x 11 7)) := ((hb2.cell (p := ⟨w.heap.size + 1 + 1, 1, none⟩) (by rw [World.size_setCell]; omega)).trans (by go_simp)); have qww22 : ww2.cell? ⟨w.heap.size + 1 + 1, 2, none⟩ = some (.int .i64 (fldZ x 19 15)) := ((hb2.cell (p := ⟨w.heap.size + 1 + 1, 2, none⟩) (by rw [World.size_setCell]; omega)).trans (by go_simp)); have qww23 : ww2.cell? ⟨w.heap.size + 1 + 1, 3, none⟩ = some (.int .i64 (0)) := ((hb2.cell (p := ⟨w.heap.size + 1 + 1, 3, none⟩) (by rw [World.size_setCell]; omega)).trans (by go_simp)); have qww24 : ww2.cell? ⟨w.heap.size + 1 + 1, 4, none⟩ = some (.int .i64 (0)) := ((hb2.cell (p := ⟨w.heap.size + 1 + 1, 4, none⟩) (by rw [World.size_setCell]; omega)).trans (by go_simp)); have qww25 : ww2.cell? ⟨w.heap.size + 1 + 1, 5, none⟩ = some (.int .i64 (fldZ x 31 20)) := ((hb2.cell (p := ⟨w.heap.size + 1 + 1, 5, none⟩) (by rw [World.size_setCell]; omega)).trans (by go_simp)); have qww26 : ww2.cell? ⟨w.heap.size + 1 + 1, 6, none⟩ = some (.bool (false)) := ((hb2.cell (p := ⟨w.heap.size + 1 + 1, 6, none⟩) (by rw [World.size_setCell]; omega)).trans (by go_simp)); have qww27 : ww2.cell? ⟨w.heap.size + 1 + 1, 7, none⟩ = some (.bool (false)) := ((hb2.cell (p := ⟨w.heap.size + 1 + 1, 7, none⟩) (by rw [World.size_setCell]; omega)).trans (by go_simp)); have qfww2 : ∀ j, ww2.frozen? ⟨w.heap.size + 1 + 1, j, none⟩ = false := (fun j => (hb2.frozen (p := ⟨w.heap.size + 1 + 1, j, none⟩) (by rw [World.size_setCell]; omega)).trans (by go_simp)); clear hb2)
    | (refine wpList_store_row rfl _ _ _ rfl (w.heap.size + 1) _ rfl rfl 23 _ ((Below.heap_setCell ww2 ⟨w.heap.size + 1 + 1, 4, none⟩ (.int .i64 (0)) (w.heap.size + 1) (by simp)).trans HZww2.out) size_ins rfl (by simp [Value.oneCell']) ?_))
  exact bodyPost_ret (v := .agg #[.int .i64 op, .int .i64 (fldZ x 11 7), .int .i64 (fldZ x 19 15), .int .i64 (0), .int .i64 (0), .int .i64 (fldZ x 31 20), .bool (false), .bool (false)]) (results_cell_row (show Tryz.f55.results = #[.cell 6 23] by kernel_rfl) _ _ (w.heap.size + 1) 23 _ _ _ rfl (setRow_heap _ _ _ _ _ _ ((Below.heap_setCell ww2 ⟨w.heap.size + 1 + 1, 4, none⟩ (.int .i64 (0)) (w.heap.size + 1) (by simp)).trans HZww2.out)) Tryz.underlying23 rfl size_ins) rfl ⟨rfl, below_setRow (HBww2.out.setCell (by show w.heap.size ≤ w.heap.size + 1 + 1; omega) _) (by omega) _⟩

set_option maxHeartbeats 1000000 in
theorem read_13 (op x : Int) (w : World) :
    Calls Tryz.prog 55 #[.agg #[.int .u32 28799, .bool true, .bool false, .bool false, .int .i64 9, .bool true, .bool false], .int .i64 op, .int .u32 x] w fun e w' => e = .returned (.agg #[.int .i64 op, .int .i64 (fldZ x 11 7), .int .i64 (0), .int .i64 (0), .int .i64 ((formL 9).number x), .int .i64 (fldZ x 31 20), .bool (false), .bool (false)]) ∧ Below w.heap.size w w' := by
  have HI : Hid (∀ w, Calls Tryz.prog 90 #[.int .i64 9, .int .u32 x] w fun e w' => e = .returned (.tuple #[.int .i64 ((formL 9).number x), .bool true]) ∧ Below w.heap.size w w') := Lib.hid fun w => progNumber 9 (by omega) x w
  go_enter Tryz.func55, Tryz.ntmps55
  go_wp2_with (first
    | (go_at_call 88; (with_reducible refine (reg7 _ _).mono ?_); rintro e w3 ⟨rfl, rfl⟩)
    | (go_at_call 90; (with_reducible refine (num8 _ _).mono ?_); rintro e ww1 ⟨rfl, hb1⟩; obtain ⟨HBww1, HZww1, HCww1, hpww1, hsww1⟩ := rows3 hb1; have qww10 : ww1.cell? ⟨w.heap.size + 1 + 1, 0, none⟩ = some (.int .i64 op) := (by rw [cell_of_row _ _ _ _ _ _ HCww1.out]; rfl); have qww11 : ww1.cell? ⟨w.heap.size + 1 + 1, 1, none⟩ = some (.int .i64 (fldZ x 11 7)) := (by rw [cell_of_row _ _ _ _ _ _ HCww1.out]; rfl); have qww12 : ww1.cell? ⟨w.heap.size + 1 + 1, 2, none⟩ = some (.int .i64 (0)) := (by rw [cell_of_row _ _ _ _ _ _ HCww1.out]; rfl); have qww13 : ww1.cell? ⟨w.heap.size + 1 + 1, 3, none⟩ = some (.int .i64 (0)) := (by rw [cell_of_row _ _ _ _ _ _ HCww1.out]; rfl); have qww14 : ww1.cell? ⟨w.heap.size + 1 + 1, 4, none⟩ = some (.int .i64 (0)) := (by rw [cell_of_row _ _ _ _ _ _ HCww1.out]; rfl); have qww15 : ww1.cell? ⟨w.heap.size + 1 + 1, 5, none⟩ = some (.int .i64 (0)) := (by rw [cell_of_row _ _ _ _ _ _ HCww1.out]; rfl); have qww16 : ww1.cell? ⟨w.heap.size + 1 + 1, 6, none⟩ = some (.bool (false)) := (by rw [cell_of_row _ _ _ _ _ _ HCww1.out]; rfl); have qww17 : ww1.cell? ⟨w.heap.size + 1 + 1, 7, none⟩ = some (.bool (false)) := (by rw [cell_of_row _ _ _ _ _ _ HCww1.out]; rfl); have qfww1 : ∀ j, ww1.frozen? ⟨w.heap.size + 1 + 1, j, none⟩ = false := fun j => frozen_of_row _ _ _ _ _ HCww1.out; have pww1 : ww1.cell? ⟨w.heap.size, 4, none⟩ = some (.int .i64 9) := (by rw [hpww1]; rfl); clear hb1 hpww1)
    | (go_at_call 90; (with_reducible refine (HI.out _).mono ?_); rintro e ww2 ⟨rfl, hb2⟩; have HBww2 : Hid (Below w.heap.size w ww2) := Lib.hid ((HBww1.out.setCell (by show w.heap.size ≤ w.heap.size + 1 + 1; omega) _).trans (hb2.mono (by rw [World.size_setCell]; omega))); have HZww2 : Hid (ww2.heap[w.heap.size + 1]? = some (.cells #[.int .i64 0, .int .i64 0, .int .i64 0, .int .i64 0, .int .i64 0, .int .i64 0, .bool false, .bool false] 23 (0, 0))) := Lib.hid ((hb2.block (w.heap.size + 1) (by rw [World.size_setCell]; omega)).trans ((Below.heap_setCell ww1 ⟨w.heap.size + 1 + 1, 5, none⟩ (.int .i64 (fldZ x 31 20)) (w.heap.size + 1) (by simp)).trans HZww1.out)); have qww20 : ww2.cell? ⟨w.heap.size + 1 + 1, 0, none⟩ = some (.int .i64 op) := ((hb2.cell (p := ⟨w.heap.size + 1 + 1, 0, none⟩) (by rw [World.size_setCell]; omega)).trans (by go_simp)); have qww21 : ww2.cell? ⟨w.heap.size + 1 + 1, 1, none⟩ = some (.int .i64 (fldZ x 11 7)) := ((hb2.cell (p := ⟨w.heap.size + 1 + 1, 1, none⟩) (by rw [World.size_setCell]; omega)).trans (by go_simp)); have qww22 : ww2.cell? ⟨w.heap.size + 1 + 1, 2, none⟩ = some (.int .i64 (0)) := ((hb2.cell (p := ⟨w.heap.size + 1 + 1, 2, none⟩) (by rw [World.size_setCell]; omega)).trans (by go_simp)); have qww23 : ww2.cell? ⟨w.heap.size + 1 + 1, 3, none⟩ = some (.int .i64 (0)) := ((hb2.cell (p := ⟨w.heap.size + 1 + 1, 3, none⟩) (by rw [World.size_setCell]; omega)).trans (by go_simp)); have qww24 : ww2.cell? ⟨w.heap.size + 1 + 1, 4, none⟩ = some (.int .i64 (0)) := ((hb2.cell (p := ⟨w.heap.size + 1 + 1, 4, none⟩) (by rw [World.size_setCell]; omega)).trans (by go_simp)); have qww25 : ww2.cell? ⟨w.heap.size + 1 + 1, 5, none⟩ = some (.int .i64 (fldZ x 31 20)) := ((hb2.cell (p := ⟨w.heap.size + 1 + 1, 5, none⟩) (by rw [World.size_setCell]; omega)).trans (by go_simp)); have qww26 : ww2.cell? ⟨w.heap.size + 1 + 1, 6, none⟩ = some (.bool (false)) := ((hb2.cell (p := ⟨w.heap.size + 1 + 1, 6, none⟩) (by rw [World.size_setCell]; omega)).trans (by go_simp)); have qww27 : ww2.cell? ⟨w.heap.size + 1 + 1, 7, none⟩ = some (.bool (false)) := ((hb2.cell (p := ⟨w.heap.size + 1 + 1, 7, none⟩) (by rw [World.size_setCell]; omega)).trans (by go_simp)); have qfww2 : ∀ j, ww2.frozen? ⟨w.heap.size + 1 + 1, j, none⟩ = false := (fun j => (hb2.frozen (p := ⟨w.heap.size + 1 + 1, j, none⟩) (by rw [World.size_setCell]; omega)).trans (by go_simp)); clear hb2)
    | (refine wpList_store_row rfl _ _ _ rfl (w.heap.size + 1) _ rfl rfl 23 _ ((Below.heap_setCell ww2 ⟨w.heap.size + 1 + 1, 4, none⟩ (.int .i64 ((formL 9).number x)) (w.heap.size + 1) (by simp)).trans HZww2.out) size_ins rfl (by simp [Value.oneCell']) ?_))
  exact bodyPost_ret (v := .agg #[.int .i64 op, .int .i64 (fldZ x 11 7), .int .i64 (0), .int .i64 (0), .int .i64 ((formL 9).number x), .int .i64 (fldZ x 31 20), .bool (false), .bool (false)]) (results_cell_row (show Tryz.f55.results = #[.cell 6 23] by kernel_rfl) _ _ (w.heap.size + 1) 23 _ _ _ rfl (setRow_heap _ _ _ _ _ _ ((Below.heap_setCell ww2 ⟨w.heap.size + 1 + 1, 4, none⟩ (.int .i64 ((formL 9).number x)) (w.heap.size + 1) (by simp)).trans HZww2.out)) Tryz.underlying23 rfl size_ins) rfl ⟨rfl, below_setRow (HBww2.out.setCell (by show w.heap.size ≤ w.heap.size + 1 + 1; omega) _) (by omega) _⟩

set_option maxHeartbeats 1000000 in
theorem read_14 (op x : Int) (w : World) :
    Calls Tryz.prog 55 #[.agg #[.int .u32 4293947519, .bool true, .bool true, .bool false, .int .i64 0, .bool false, .bool false], .int .i64 op, .int .u32 x] w fun e w' => e = .returned (.agg #[.int .i64 op, .int .i64 (fldZ x 11 7), .int .i64 (fldZ x 19 15), .int .i64 (0), .int .i64 (0), .int .i64 (0), .bool (false), .bool (false)]) ∧ Below w.heap.size w w' := by
  have HI : Hid (∀ w, Calls Tryz.prog 90 #[.int .i64 0, .int .u32 x] w fun e w' => e = .returned (.tuple #[.int .i64 (0), .bool false]) ∧ Below w.heap.size w w') := Lib.hid fun w => progNumber_no 0 (by omega) x w
  go_enter Tryz.func55, Tryz.ntmps55
  go_wp2_with (first
    | (go_at_call 88; (with_reducible refine (reg7 _ _).mono ?_); rintro e w3 ⟨rfl, rfl⟩)
    | (go_at_call 88; (with_reducible refine (reg15 _ _).mono ?_); rintro e w3 ⟨rfl, rfl⟩)
    | (go_at_call 90; (with_reducible refine (HI.out _).mono ?_); rintro e ww2 ⟨rfl, hb2⟩; obtain ⟨HBww2, HZww2, HCww2, hpww2, hsww2⟩ := rows3 hb2; have qww20 : ww2.cell? ⟨w.heap.size + 1 + 1, 0, none⟩ = some (.int .i64 op) := (by rw [cell_of_row _ _ _ _ _ _ HCww2.out]; rfl); have qww21 : ww2.cell? ⟨w.heap.size + 1 + 1, 1, none⟩ = some (.int .i64 (fldZ x 11 7)) := (by rw [cell_of_row _ _ _ _ _ _ HCww2.out]; rfl); have qww22 : ww2.cell? ⟨w.heap.size + 1 + 1, 2, none⟩ = some (.int .i64 (fldZ x 19 15)) := (by rw [cell_of_row _ _ _ _ _ _ HCww2.out]; rfl); have qww23 : ww2.cell? ⟨w.heap.size + 1 + 1, 3, none⟩ = some (.int .i64 (0)) := (by rw [cell_of_row _ _ _ _ _ _ HCww2.out]; rfl); have qww24 : ww2.cell? ⟨w.heap.size + 1 + 1, 4, none⟩ = some (.int .i64 (0)) := (by rw [cell_of_row _ _ _ _ _ _ HCww2.out]; rfl); have qww25 : ww2.cell? ⟨w.heap.size + 1 + 1, 5, none⟩ = some (.int .i64 (0)) := (by rw [cell_of_row _ _ _ _ _ _ HCww2.out]; rfl); have qww26 : ww2.cell? ⟨w.heap.size + 1 + 1, 6, none⟩ = some (.bool (false)) := (by rw [cell_of_row _ _ _ _ _ _ HCww2.out]; rfl); have qww27 : ww2.cell? ⟨w.heap.size + 1 + 1, 7, none⟩ = some (.bool (false)) := (by rw [cell_of_row _ _ _ _ _ _ HCww2.out]; rfl); have qfww2 : ∀ j, ww2.frozen? ⟨w.heap.size + 1 + 1, j, none⟩ = false := fun j => frozen_of_row _ _ _ _ _ HCww2.out; have pww2 : ww2.cell? ⟨w.heap.size, 4, none⟩ = some (.int .i64 0) := (by rw [hpww2]; rfl); clear hb2 hpww2)
    | (refine wpList_store_row rfl _ _ _ rfl (w.heap.size + 1) _ rfl rfl 23 _ ((Below.heap_setCell ww2 ⟨w.heap.size + 1 + 1, 4, none⟩ (.int .i64 (0)) (w.heap.size + 1) (by simp)).trans HZww2.out) size_ins rfl (by simp [Value.oneCell']) ?_))
  exact bodyPost_ret (v := .agg #[.int .i64 op, .int .i64 (fldZ x 11 7), .int .i64 (fldZ x 19 15), .int .i64 (0), .int .i64 (0), .int .i64 (0), .bool (false), .bool (false)]) (results_cell_row (show Tryz.f55.results = #[.cell 6 23] by kernel_rfl) _ _ (w.heap.size + 1) 23 _ _ _ rfl (setRow_heap _ _ _ _ _ _ ((Below.heap_setCell ww2 ⟨w.heap.size + 1 + 1, 4, none⟩ (.int .i64 (0)) (w.heap.size + 1) (by simp)).trans HZww2.out)) Tryz.underlying23 rfl size_ins) rfl ⟨rfl, below_setRow (HBww2.out.setCell (by show w.heap.size ≤ w.heap.size + 1 + 1; omega) _) (by omega) _⟩

end Go.Proofs.YtakdhdaoklcidaaGreatDoor

namespace Go.Proofs.YtakdhdaoklcidaaGreatDoor
open Go.RowKit
set_option linter.unusedVariables false
set_option maxRecDepth 100000

/-- Whether a form's number fits (0: there is no such form). -/
def fitB (k : Nat) (n : Int) : Bool := decide (1 ≤ k) && ((formL k).number ((formL k).word n) == n)
theorem progPutF (k : Nat) (hk : k ≤ 9) (n : Int) (w : World) :
    Calls Tryz.prog 87 #[.int .i64 k, .int .i64 n] w fun e w' => e = .returned (.tuple #[.int .u32 (putF k n), .bool (fitB k n)]) ∧ Below w.heap.size w w' := by
  by_cases h0 : k = 0
  · subst h0
    have e : putF 0 n = 0 := by unfold putF; rw [word0]; split <;> rfl
    have e2 : fitB 0 n = false := rfl
    rw [e, e2]
    exact progPut_no 0 (by omega) n w
  · cases hq : ((formL k).number ((formL k).word n) == n)
    · have e : putF k n = 0 := by unfold putF; rw [hq]; rfl
      have e2 : fitB k n = false := by unfold fitB; rw [hq]; simp
      rw [e, e2]
      exact progPut_not k (by omega) n hq w
    · have e : putF k n = (formL k).word n := by unfold putF; rw [hq]; rfl
      have e2 : fitB k n = true := by unfold fitB; rw [hq]; simp; omega
      rw [e, e2]
      exact progPut_yes k (by omega) n hq w
theorem mark_int (b : Bool) (s : Int) (h0 : 0 ≤ s) (h1 : s ≤ 31) (w : World) :
    Calls Tryz.prog 86 #[.bool b, .int .i64 s] w fun e w' => e = .returned (.int .u32 (markZ b s.toNat)) ∧ w' = w := by
  obtain ⟨n, rfl⟩ := Int.eq_ofNat_of_zero_le h0
  exact (mark_any b n (by omega) w).mono fun e w' h => ⟨h.1, h.2.symm⟩
/-- What stands behind a call that is made with two new blocks. -/
theorem rows2 {w w2 : World} {A B : Array Value} {a b : TypeId} (h : Below ((w.alloc (.cells A a)).alloc (.cells B b)).heap.size ((w.alloc (.cells A a)).alloc (.cells B b)) w2) :
    Hid (Below w.heap.size w w2) ∧ (∀ j, w2.cell? ⟨w.heap.size, j, none⟩ = A[j]?) ∧ (∀ j, w2.cell? ⟨w.heap.size + 1, j, none⟩ = B[j]?) ∧ w.heap.size + 1 < w2.heap.size := by
  have s1 : (w.alloc (.cells A a)).heap.size = w.heap.size + 1 := World.size_alloc _ _
  have s2 : ((w.alloc (.cells A a)).alloc (.cells B b)).heap.size = w.heap.size + 1 + 1 := by rw [World.size_alloc, s1]
  have e0 : ((w.alloc (.cells A a)).alloc (.cells B b)).heap[w.heap.size]? = some (.cells A a (0, 0)) := by
    rw [Below.heap_alloc _ _ _ (by omega)]; exact heap_alloc_new w _
  have e1 : ((w.alloc (.cells A a)).alloc (.cells B b)).heap[w.heap.size + 1]? = some (.cells B b (0, 0)) := by
    rw [← s1]; exact heap_alloc_new _ _
  exact ⟨Lib.hid ((((Below.refl _ _).alloc (Nat.le_refl _) _).alloc (by omega) _).trans (h.mono (by omega))), fun j => cell_of_row _ _ _ _ _ _ ((h.block _ (by omega)).trans e0), fun j => cell_of_row _ _ _ _ _ _ ((h.block _ (by omega)).trans e1), by have := h.size; omega⟩

set_option maxHeartbeats 1000000 in
theorem write_0 (i : Ins) (w : World) :
    Calls Tryz.prog 54 #[.agg #[.int .u32 127, .bool true, .bool false, .bool false, .int .i64 4, .bool false, .bool false], .agg #[.int .i64 i.op, .int .i64 i.rd, .int .i64 i.a, .int .i64 i.b, .int .i64 i.imm, .int .i64 i.csr, .bool i.aq, .bool i.rl]] w fun e w' => e = .returned (.int .u32 (bits .or .u32 (bits .or .u32 0 (put5 i.rd 7)) (putF 4 i.imm))) ∧ Below w.heap.size w w' := by
  have H7 : Hid (∀ n w, Calls Tryz.prog 85 #[.int .i64 n, .int .i64 7] w fun e w' => e = .returned (.int .u32 (put5 n 7)) ∧ w = w') := Lib.hid fun n w => put_any n 7 (by omega) w
  have H15 : Hid (∀ n w, Calls Tryz.prog 85 #[.int .i64 n, .int .i64 15] w fun e w' => e = .returned (.int .u32 (put5 n 15)) ∧ w = w') := Lib.hid fun n w => put_any n 15 (by omega) w
  have H20 : Hid (∀ n w, Calls Tryz.prog 85 #[.int .i64 n, .int .i64 20] w fun e w' => e = .returned (.int .u32 (put5 n 20)) ∧ w = w') := Lib.hid fun n w => put_any n 20 (by omega) w
  have H8 : Hid (∀ n w, Calls Tryz.prog 87 #[.int .i64 8, .int .i64 n] w fun e w' => e = .returned (.tuple #[.int .u32 (putF 8 n), .bool (fitB 8 n)]) ∧ Below w.heap.size w w') := Lib.hid fun n w => progPutF 8 (by omega) n w
  have HI : Hid (∀ n w, Calls Tryz.prog 87 #[.int .i64 4, .int .i64 n] w fun e w' => e = .returned (.tuple #[.int .u32 (putF 4 n), .bool (fitB 4 n)]) ∧ Below w.heap.size w w') := Lib.hid fun n w => progPutF 4 (by omega) n w
  go_enter Tryz.func54, Tryz.ntmps54
  go_wp2_with (first
    | (go_at_call 85; (with_reducible refine (H7.out _ _).mono ?_); rintro e w3 ⟨rfl, rfl⟩)
    | (go_at_call 87; (with_reducible refine (HI.out _ _).mono ?_); rintro e ww2 ⟨rfl, hb2⟩; obtain ⟨HB2, hp, hq, hs⟩ := rows2 hb2; clear hb2 hp hq))
  go_ret
  exact ⟨rfl, HB2.out⟩

set_option maxHeartbeats 1000000 in
theorem write_1 (i : Ins) (w : World) :
    Calls Tryz.prog 54 #[.agg #[.int .u32 127, .bool true, .bool false, .bool false, .int .i64 5, .bool false, .bool false], .agg #[.int .i64 i.op, .int .i64 i.rd, .int .i64 i.a, .int .i64 i.b, .int .i64 i.imm, .int .i64 i.csr, .bool i.aq, .bool i.rl]] w fun e w' => e = .returned (.int .u32 (bits .or .u32 (bits .or .u32 0 (put5 i.rd 7)) (putF 5 i.imm))) ∧ Below w.heap.size w w' := by
  have H7 : Hid (∀ n w, Calls Tryz.prog 85 #[.int .i64 n, .int .i64 7] w fun e w' => e = .returned (.int .u32 (put5 n 7)) ∧ w = w') := Lib.hid fun n w => put_any n 7 (by omega) w
  have H15 : Hid (∀ n w, Calls Tryz.prog 85 #[.int .i64 n, .int .i64 15] w fun e w' => e = .returned (.int .u32 (put5 n 15)) ∧ w = w') := Lib.hid fun n w => put_any n 15 (by omega) w
  have H20 : Hid (∀ n w, Calls Tryz.prog 85 #[.int .i64 n, .int .i64 20] w fun e w' => e = .returned (.int .u32 (put5 n 20)) ∧ w = w') := Lib.hid fun n w => put_any n 20 (by omega) w
  have H8 : Hid (∀ n w, Calls Tryz.prog 87 #[.int .i64 8, .int .i64 n] w fun e w' => e = .returned (.tuple #[.int .u32 (putF 8 n), .bool (fitB 8 n)]) ∧ Below w.heap.size w w') := Lib.hid fun n w => progPutF 8 (by omega) n w
  have HI : Hid (∀ n w, Calls Tryz.prog 87 #[.int .i64 5, .int .i64 n] w fun e w' => e = .returned (.tuple #[.int .u32 (putF 5 n), .bool (fitB 5 n)]) ∧ Below w.heap.size w w') := Lib.hid fun n w => progPutF 5 (by omega) n w
  go_enter Tryz.func54, Tryz.ntmps54
  go_wp2_with (first
    | (go_at_call 85; (with_reducible refine (H7.out _ _).mono ?_); rintro e w3 ⟨rfl, rfl⟩)
    | (go_at_call 87; (with_reducible refine (HI.out _ _).mono ?_); rintro e ww2 ⟨rfl, hb2⟩; obtain ⟨HB2, hp, hq, hs⟩ := rows2 hb2; clear hb2 hp hq))
  go_ret
  exact ⟨rfl, HB2.out⟩

set_option maxHeartbeats 1000000 in
theorem write_2 (i : Ins) (w : World) :
    Calls Tryz.prog 54 #[.agg #[.int .u32 28799, .bool true, .bool true, .bool false, .int .i64 1, .bool false, .bool false], .agg #[.int .i64 i.op, .int .i64 i.rd, .int .i64 i.a, .int .i64 i.b, .int .i64 i.imm, .int .i64 i.csr, .bool i.aq, .bool i.rl]] w fun e w' => e = .returned (.int .u32 (bits .or .u32 (bits .or .u32 (bits .or .u32 0 (put5 i.rd 7)) (put5 i.a 15)) (putF 1 i.imm))) ∧ Below w.heap.size w w' := by
  have H7 : Hid (∀ n w, Calls Tryz.prog 85 #[.int .i64 n, .int .i64 7] w fun e w' => e = .returned (.int .u32 (put5 n 7)) ∧ w = w') := Lib.hid fun n w => put_any n 7 (by omega) w
  have H15 : Hid (∀ n w, Calls Tryz.prog 85 #[.int .i64 n, .int .i64 15] w fun e w' => e = .returned (.int .u32 (put5 n 15)) ∧ w = w') := Lib.hid fun n w => put_any n 15 (by omega) w
  have H20 : Hid (∀ n w, Calls Tryz.prog 85 #[.int .i64 n, .int .i64 20] w fun e w' => e = .returned (.int .u32 (put5 n 20)) ∧ w = w') := Lib.hid fun n w => put_any n 20 (by omega) w
  have H8 : Hid (∀ n w, Calls Tryz.prog 87 #[.int .i64 8, .int .i64 n] w fun e w' => e = .returned (.tuple #[.int .u32 (putF 8 n), .bool (fitB 8 n)]) ∧ Below w.heap.size w w') := Lib.hid fun n w => progPutF 8 (by omega) n w
  have HI : Hid (∀ n w, Calls Tryz.prog 87 #[.int .i64 1, .int .i64 n] w fun e w' => e = .returned (.tuple #[.int .u32 (putF 1 n), .bool (fitB 1 n)]) ∧ Below w.heap.size w w') := Lib.hid fun n w => progPutF 1 (by omega) n w
  go_enter Tryz.func54, Tryz.ntmps54
  go_wp2_with (first
    | (go_at_call 85; (with_reducible refine (H7.out _ _).mono ?_); rintro e w3 ⟨rfl, rfl⟩)
    | (go_at_call 85; (with_reducible refine (H15.out _ _).mono ?_); rintro e w3 ⟨rfl, rfl⟩)
    | (go_at_call 87; (with_reducible refine (HI.out _ _).mono ?_); rintro e ww2 ⟨rfl, hb2⟩; obtain ⟨HB2, hp, hq, hs⟩ := rows2 hb2; clear hb2 hp hq))
  go_ret
  exact ⟨rfl, HB2.out⟩

set_option maxHeartbeats 1000000 in
theorem write_3 (i : Ins) (w : World) :
    Calls Tryz.prog 54 #[.agg #[.int .u32 28799, .bool false, .bool true, .bool true, .int .i64 3, .bool false, .bool false], .agg #[.int .i64 i.op, .int .i64 i.rd, .int .i64 i.a, .int .i64 i.b, .int .i64 i.imm, .int .i64 i.csr, .bool i.aq, .bool i.rl]] w fun e w' => e = .returned (.int .u32 (bits .or .u32 (bits .or .u32 (bits .or .u32 (0) (put5 i.a 15)) (put5 i.b 20)) (putF 3 i.imm))) ∧ Below w.heap.size w w' := by
  have H7 : Hid (∀ n w, Calls Tryz.prog 85 #[.int .i64 n, .int .i64 7] w fun e w' => e = .returned (.int .u32 (put5 n 7)) ∧ w = w') := Lib.hid fun n w => put_any n 7 (by omega) w
  have H15 : Hid (∀ n w, Calls Tryz.prog 85 #[.int .i64 n, .int .i64 15] w fun e w' => e = .returned (.int .u32 (put5 n 15)) ∧ w = w') := Lib.hid fun n w => put_any n 15 (by omega) w
  have H20 : Hid (∀ n w, Calls Tryz.prog 85 #[.int .i64 n, .int .i64 20] w fun e w' => e = .returned (.int .u32 (put5 n 20)) ∧ w = w') := Lib.hid fun n w => put_any n 20 (by omega) w
  have H8 : Hid (∀ n w, Calls Tryz.prog 87 #[.int .i64 8, .int .i64 n] w fun e w' => e = .returned (.tuple #[.int .u32 (putF 8 n), .bool (fitB 8 n)]) ∧ Below w.heap.size w w') := Lib.hid fun n w => progPutF 8 (by omega) n w
  have HI : Hid (∀ n w, Calls Tryz.prog 87 #[.int .i64 3, .int .i64 n] w fun e w' => e = .returned (.tuple #[.int .u32 (putF 3 n), .bool (fitB 3 n)]) ∧ Below w.heap.size w w') := Lib.hid fun n w => progPutF 3 (by omega) n w
  go_enter Tryz.func54, Tryz.ntmps54
  go_wp2_with (first
    | (go_at_call 85; (with_reducible refine (H15.out _ _).mono ?_); rintro e w3 ⟨rfl, rfl⟩)
    | (go_at_call 85; (with_reducible refine (H20.out _ _).mono ?_); rintro e w3 ⟨rfl, rfl⟩)
    | (go_at_call 87; (with_reducible refine (HI.out _ _).mono ?_); rintro e ww2 ⟨rfl, hb2⟩; obtain ⟨HB2, hp, hq, hs⟩ := rows2 hb2; clear hb2 hp hq))
  go_ret
  exact ⟨rfl, HB2.out⟩

set_option maxHeartbeats 1000000 in
theorem write_4 (i : Ins) (w : World) :
    Calls Tryz.prog 54 #[.agg #[.int .u32 28799, .bool false, .bool true, .bool true, .int .i64 2, .bool false, .bool false], .agg #[.int .i64 i.op, .int .i64 i.rd, .int .i64 i.a, .int .i64 i.b, .int .i64 i.imm, .int .i64 i.csr, .bool i.aq, .bool i.rl]] w fun e w' => e = .returned (.int .u32 (bits .or .u32 (bits .or .u32 (bits .or .u32 (0) (put5 i.a 15)) (put5 i.b 20)) (putF 2 i.imm))) ∧ Below w.heap.size w w' := by
  have H7 : Hid (∀ n w, Calls Tryz.prog 85 #[.int .i64 n, .int .i64 7] w fun e w' => e = .returned (.int .u32 (put5 n 7)) ∧ w = w') := Lib.hid fun n w => put_any n 7 (by omega) w
  have H15 : Hid (∀ n w, Calls Tryz.prog 85 #[.int .i64 n, .int .i64 15] w fun e w' => e = .returned (.int .u32 (put5 n 15)) ∧ w = w') := Lib.hid fun n w => put_any n 15 (by omega) w
  have H20 : Hid (∀ n w, Calls Tryz.prog 85 #[.int .i64 n, .int .i64 20] w fun e w' => e = .returned (.int .u32 (put5 n 20)) ∧ w = w') := Lib.hid fun n w => put_any n 20 (by omega) w
  have H8 : Hid (∀ n w, Calls Tryz.prog 87 #[.int .i64 8, .int .i64 n] w fun e w' => e = .returned (.tuple #[.int .u32 (putF 8 n), .bool (fitB 8 n)]) ∧ Below w.heap.size w w') := Lib.hid fun n w => progPutF 8 (by omega) n w
  have HI : Hid (∀ n w, Calls Tryz.prog 87 #[.int .i64 2, .int .i64 n] w fun e w' => e = .returned (.tuple #[.int .u32 (putF 2 n), .bool (fitB 2 n)]) ∧ Below w.heap.size w w') := Lib.hid fun n w => progPutF 2 (by omega) n w
  go_enter Tryz.func54, Tryz.ntmps54
  go_wp2_with (first
    | (go_at_call 85; (with_reducible refine (H15.out _ _).mono ?_); rintro e w3 ⟨rfl, rfl⟩)
    | (go_at_call 85; (with_reducible refine (H20.out _ _).mono ?_); rintro e w3 ⟨rfl, rfl⟩)
    | (go_at_call 87; (with_reducible refine (HI.out _ _).mono ?_); rintro e ww2 ⟨rfl, hb2⟩; obtain ⟨HB2, hp, hq, hs⟩ := rows2 hb2; clear hb2 hp hq))
  go_ret
  exact ⟨rfl, HB2.out⟩

set_option maxHeartbeats 1000000 in
theorem write_5 (i : Ins) (w : World) :
    Calls Tryz.prog 54 #[.agg #[.int .u32 4227887231, .bool true, .bool true, .bool false, .int .i64 6, .bool false, .bool false], .agg #[.int .i64 i.op, .int .i64 i.rd, .int .i64 i.a, .int .i64 i.b, .int .i64 i.imm, .int .i64 i.csr, .bool i.aq, .bool i.rl]] w fun e w' => e = .returned (.int .u32 (bits .or .u32 (bits .or .u32 (bits .or .u32 0 (put5 i.rd 7)) (put5 i.a 15)) (putF 6 i.imm))) ∧ Below w.heap.size w w' := by
  have H7 : Hid (∀ n w, Calls Tryz.prog 85 #[.int .i64 n, .int .i64 7] w fun e w' => e = .returned (.int .u32 (put5 n 7)) ∧ w = w') := Lib.hid fun n w => put_any n 7 (by omega) w
  have H15 : Hid (∀ n w, Calls Tryz.prog 85 #[.int .i64 n, .int .i64 15] w fun e w' => e = .returned (.int .u32 (put5 n 15)) ∧ w = w') := Lib.hid fun n w => put_any n 15 (by omega) w
  have H20 : Hid (∀ n w, Calls Tryz.prog 85 #[.int .i64 n, .int .i64 20] w fun e w' => e = .returned (.int .u32 (put5 n 20)) ∧ w = w') := Lib.hid fun n w => put_any n 20 (by omega) w
  have H8 : Hid (∀ n w, Calls Tryz.prog 87 #[.int .i64 8, .int .i64 n] w fun e w' => e = .returned (.tuple #[.int .u32 (putF 8 n), .bool (fitB 8 n)]) ∧ Below w.heap.size w w') := Lib.hid fun n w => progPutF 8 (by omega) n w
  have HI : Hid (∀ n w, Calls Tryz.prog 87 #[.int .i64 6, .int .i64 n] w fun e w' => e = .returned (.tuple #[.int .u32 (putF 6 n), .bool (fitB 6 n)]) ∧ Below w.heap.size w w') := Lib.hid fun n w => progPutF 6 (by omega) n w
  go_enter Tryz.func54, Tryz.ntmps54
  go_wp2_with (first
    | (go_at_call 85; (with_reducible refine (H7.out _ _).mono ?_); rintro e w3 ⟨rfl, rfl⟩)
    | (go_at_call 85; (with_reducible refine (H15.out _ _).mono ?_); rintro e w3 ⟨rfl, rfl⟩)
    | (go_at_call 87; (with_reducible refine (HI.out _ _).mono ?_); rintro e ww2 ⟨rfl, hb2⟩; obtain ⟨HB2, hp, hq, hs⟩ := rows2 hb2; clear hb2 hp hq))
  go_ret
  exact ⟨rfl, HB2.out⟩

set_option maxHeartbeats 1000000 in
theorem write_6 (i : Ins) (w : World) :
    Calls Tryz.prog 54 #[.agg #[.int .u32 4261441663, .bool true, .bool true, .bool false, .int .i64 7, .bool false, .bool false], .agg #[.int .i64 i.op, .int .i64 i.rd, .int .i64 i.a, .int .i64 i.b, .int .i64 i.imm, .int .i64 i.csr, .bool i.aq, .bool i.rl]] w fun e w' => e = .returned (.int .u32 (bits .or .u32 (bits .or .u32 (bits .or .u32 0 (put5 i.rd 7)) (put5 i.a 15)) (putF 7 i.imm))) ∧ Below w.heap.size w w' := by
  have H7 : Hid (∀ n w, Calls Tryz.prog 85 #[.int .i64 n, .int .i64 7] w fun e w' => e = .returned (.int .u32 (put5 n 7)) ∧ w = w') := Lib.hid fun n w => put_any n 7 (by omega) w
  have H15 : Hid (∀ n w, Calls Tryz.prog 85 #[.int .i64 n, .int .i64 15] w fun e w' => e = .returned (.int .u32 (put5 n 15)) ∧ w = w') := Lib.hid fun n w => put_any n 15 (by omega) w
  have H20 : Hid (∀ n w, Calls Tryz.prog 85 #[.int .i64 n, .int .i64 20] w fun e w' => e = .returned (.int .u32 (put5 n 20)) ∧ w = w') := Lib.hid fun n w => put_any n 20 (by omega) w
  have H8 : Hid (∀ n w, Calls Tryz.prog 87 #[.int .i64 8, .int .i64 n] w fun e w' => e = .returned (.tuple #[.int .u32 (putF 8 n), .bool (fitB 8 n)]) ∧ Below w.heap.size w w') := Lib.hid fun n w => progPutF 8 (by omega) n w
  have HI : Hid (∀ n w, Calls Tryz.prog 87 #[.int .i64 7, .int .i64 n] w fun e w' => e = .returned (.tuple #[.int .u32 (putF 7 n), .bool (fitB 7 n)]) ∧ Below w.heap.size w w') := Lib.hid fun n w => progPutF 7 (by omega) n w
  go_enter Tryz.func54, Tryz.ntmps54
  go_wp2_with (first
    | (go_at_call 85; (with_reducible refine (H7.out _ _).mono ?_); rintro e w3 ⟨rfl, rfl⟩)
    | (go_at_call 85; (with_reducible refine (H15.out _ _).mono ?_); rintro e w3 ⟨rfl, rfl⟩)
    | (go_at_call 87; (with_reducible refine (HI.out _ _).mono ?_); rintro e ww2 ⟨rfl, hb2⟩; obtain ⟨HB2, hp, hq, hs⟩ := rows2 hb2; clear hb2 hp hq))
  go_ret
  exact ⟨rfl, HB2.out⟩

set_option maxHeartbeats 1000000 in
theorem write_7 (i : Ins) (w : World) :
    Calls Tryz.prog 54 #[.agg #[.int .u32 4261441663, .bool true, .bool true, .bool true, .int .i64 0, .bool false, .bool false], .agg #[.int .i64 i.op, .int .i64 i.rd, .int .i64 i.a, .int .i64 i.b, .int .i64 i.imm, .int .i64 i.csr, .bool i.aq, .bool i.rl]] w fun e w' => e = .returned (.int .u32 (bits .or .u32 (bits .or .u32 (bits .or .u32 (bits .or .u32 0 (put5 i.rd 7)) (put5 i.a 15)) (put5 i.b 20)) (putF 0 i.imm))) ∧ Below w.heap.size w w' := by
  have H7 : Hid (∀ n w, Calls Tryz.prog 85 #[.int .i64 n, .int .i64 7] w fun e w' => e = .returned (.int .u32 (put5 n 7)) ∧ w = w') := Lib.hid fun n w => put_any n 7 (by omega) w
  have H15 : Hid (∀ n w, Calls Tryz.prog 85 #[.int .i64 n, .int .i64 15] w fun e w' => e = .returned (.int .u32 (put5 n 15)) ∧ w = w') := Lib.hid fun n w => put_any n 15 (by omega) w
  have H20 : Hid (∀ n w, Calls Tryz.prog 85 #[.int .i64 n, .int .i64 20] w fun e w' => e = .returned (.int .u32 (put5 n 20)) ∧ w = w') := Lib.hid fun n w => put_any n 20 (by omega) w
  have H8 : Hid (∀ n w, Calls Tryz.prog 87 #[.int .i64 8, .int .i64 n] w fun e w' => e = .returned (.tuple #[.int .u32 (putF 8 n), .bool (fitB 8 n)]) ∧ Below w.heap.size w w') := Lib.hid fun n w => progPutF 8 (by omega) n w
  have HI : Hid (∀ n w, Calls Tryz.prog 87 #[.int .i64 0, .int .i64 n] w fun e w' => e = .returned (.tuple #[.int .u32 (putF 0 n), .bool (fitB 0 n)]) ∧ Below w.heap.size w w') := Lib.hid fun n w => progPutF 0 (by omega) n w
  go_enter Tryz.func54, Tryz.ntmps54
  go_wp2_with (first
    | (go_at_call 85; (with_reducible refine (H7.out _ _).mono ?_); rintro e w3 ⟨rfl, rfl⟩)
    | (go_at_call 85; (with_reducible refine (H15.out _ _).mono ?_); rintro e w3 ⟨rfl, rfl⟩)
    | (go_at_call 85; (with_reducible refine (H20.out _ _).mono ?_); rintro e w3 ⟨rfl, rfl⟩)
    | (go_at_call 87; (with_reducible refine (HI.out _ _).mono ?_); rintro e ww2 ⟨rfl, hb2⟩; obtain ⟨HB2, hp, hq, hs⟩ := rows2 hb2; clear hb2 hp hq))
  go_ret
  exact ⟨rfl, HB2.out⟩

set_option maxHeartbeats 1000000 in
theorem write_8 (i : Ins) (w : World) :
    Calls Tryz.prog 54 #[.agg #[.int .u32 4193284223, .bool true, .bool true, .bool false, .int .i64 0, .bool false, .bool true], .agg #[.int .i64 i.op, .int .i64 i.rd, .int .i64 i.a, .int .i64 i.b, .int .i64 i.imm, .int .i64 i.csr, .bool i.aq, .bool i.rl]] w fun e w' => e = .returned (.int .u32 (bits .or .u32 (bits .or .u32 (bits .or .u32 (bits .or .u32 0 (put5 i.rd 7)) (put5 i.a 15)) (bits .or .u32 (markZ i.aq 26) (markZ i.rl 25))) (putF 0 i.imm))) ∧ Below w.heap.size w w' := by
  have H7 : Hid (∀ n w, Calls Tryz.prog 85 #[.int .i64 n, .int .i64 7] w fun e w' => e = .returned (.int .u32 (put5 n 7)) ∧ w = w') := Lib.hid fun n w => put_any n 7 (by omega) w
  have H15 : Hid (∀ n w, Calls Tryz.prog 85 #[.int .i64 n, .int .i64 15] w fun e w' => e = .returned (.int .u32 (put5 n 15)) ∧ w = w') := Lib.hid fun n w => put_any n 15 (by omega) w
  have H20 : Hid (∀ n w, Calls Tryz.prog 85 #[.int .i64 n, .int .i64 20] w fun e w' => e = .returned (.int .u32 (put5 n 20)) ∧ w = w') := Lib.hid fun n w => put_any n 20 (by omega) w
  have H8 : Hid (∀ n w, Calls Tryz.prog 87 #[.int .i64 8, .int .i64 n] w fun e w' => e = .returned (.tuple #[.int .u32 (putF 8 n), .bool (fitB 8 n)]) ∧ Below w.heap.size w w') := Lib.hid fun n w => progPutF 8 (by omega) n w
  have HI : Hid (∀ n w, Calls Tryz.prog 87 #[.int .i64 0, .int .i64 n] w fun e w' => e = .returned (.tuple #[.int .u32 (putF 0 n), .bool (fitB 0 n)]) ∧ Below w.heap.size w w') := Lib.hid fun n w => progPutF 0 (by omega) n w
  go_enter Tryz.func54, Tryz.ntmps54
  go_wp2_with (first
    | (go_at_call 85; (with_reducible refine (H7.out _ _).mono ?_); rintro e w3 ⟨rfl, rfl⟩)
    | (go_at_call 85; (with_reducible refine (H15.out _ _).mono ?_); rintro e w3 ⟨rfl, rfl⟩))
  go_quiet ((go_at_call 86; exact Calls.quiet_of_same (mark_int _ _ (by omega) (by omega) _)))
  go_wp2_with (first
    | (go_at_call 87; (with_reducible refine (HI.out _ _).mono ?_); rintro e ww2 ⟨rfl, hb2⟩; have HB2 : Hid (Below w.heap.size w ww2) := Lib.hid ((belN (((Below.refl _ _).alloc (Nat.le_refl _) _).alloc (by rw [World.size_alloc]; omega) _) _).trans (hb2.mono (by show w.heap.size ≤ ((w.alloc _).alloc _).heap.size; rw [World.size_alloc, World.size_alloc]; omega))); clear hb2))
  go_ret
  exact ⟨rfl, HB2.out⟩

set_option maxHeartbeats 1000000 in
theorem write_9 (i : Ins) (w : World) :
    Calls Tryz.prog 54 #[.agg #[.int .u32 4160778367, .bool true, .bool true, .bool true, .int .i64 0, .bool false, .bool true], .agg #[.int .i64 i.op, .int .i64 i.rd, .int .i64 i.a, .int .i64 i.b, .int .i64 i.imm, .int .i64 i.csr, .bool i.aq, .bool i.rl]] w fun e w' => e = .returned (.int .u32 (bits .or .u32 (bits .or .u32 (bits .or .u32 (bits .or .u32 (bits .or .u32 0 (put5 i.rd 7)) (put5 i.a 15)) (put5 i.b 20)) (bits .or .u32 (markZ i.aq 26) (markZ i.rl 25))) (putF 0 i.imm))) ∧ Below w.heap.size w w' := by
  have H7 : Hid (∀ n w, Calls Tryz.prog 85 #[.int .i64 n, .int .i64 7] w fun e w' => e = .returned (.int .u32 (put5 n 7)) ∧ w = w') := Lib.hid fun n w => put_any n 7 (by omega) w
  have H15 : Hid (∀ n w, Calls Tryz.prog 85 #[.int .i64 n, .int .i64 15] w fun e w' => e = .returned (.int .u32 (put5 n 15)) ∧ w = w') := Lib.hid fun n w => put_any n 15 (by omega) w
  have H20 : Hid (∀ n w, Calls Tryz.prog 85 #[.int .i64 n, .int .i64 20] w fun e w' => e = .returned (.int .u32 (put5 n 20)) ∧ w = w') := Lib.hid fun n w => put_any n 20 (by omega) w
  have H8 : Hid (∀ n w, Calls Tryz.prog 87 #[.int .i64 8, .int .i64 n] w fun e w' => e = .returned (.tuple #[.int .u32 (putF 8 n), .bool (fitB 8 n)]) ∧ Below w.heap.size w w') := Lib.hid fun n w => progPutF 8 (by omega) n w
  have HI : Hid (∀ n w, Calls Tryz.prog 87 #[.int .i64 0, .int .i64 n] w fun e w' => e = .returned (.tuple #[.int .u32 (putF 0 n), .bool (fitB 0 n)]) ∧ Below w.heap.size w w') := Lib.hid fun n w => progPutF 0 (by omega) n w
  go_enter Tryz.func54, Tryz.ntmps54
  go_wp2_with (first
    | (go_at_call 85; (with_reducible refine (H7.out _ _).mono ?_); rintro e w3 ⟨rfl, rfl⟩)
    | (go_at_call 85; (with_reducible refine (H15.out _ _).mono ?_); rintro e w3 ⟨rfl, rfl⟩)
    | (go_at_call 85; (with_reducible refine (H20.out _ _).mono ?_); rintro e w3 ⟨rfl, rfl⟩))
  go_quiet ((go_at_call 86; exact Calls.quiet_of_same (mark_int _ _ (by omega) (by omega) _)))
  go_wp2_with (first
    | (go_at_call 87; (with_reducible refine (HI.out _ _).mono ?_); rintro e ww2 ⟨rfl, hb2⟩; have HB2 : Hid (Below w.heap.size w ww2) := Lib.hid ((belN (((Below.refl _ _).alloc (Nat.le_refl _) _).alloc (by rw [World.size_alloc]; omega) _) _).trans (hb2.mono (by show w.heap.size ≤ ((w.alloc _).alloc _).heap.size; rw [World.size_alloc, World.size_alloc]; omega))); clear hb2))
  go_ret
  exact ⟨rfl, HB2.out⟩

set_option maxHeartbeats 1000000 in
theorem write_10 (i : Ins) (w : World) :
    Calls Tryz.prog 54 #[.agg #[.int .u32 4294967295, .bool false, .bool false, .bool false, .int .i64 0, .bool false, .bool false], .agg #[.int .i64 i.op, .int .i64 i.rd, .int .i64 i.a, .int .i64 i.b, .int .i64 i.imm, .int .i64 i.csr, .bool i.aq, .bool i.rl]] w fun e w' => e = .returned (.int .u32 (bits .or .u32 (0) (putF 0 i.imm))) ∧ Below w.heap.size w w' := by
  have H7 : Hid (∀ n w, Calls Tryz.prog 85 #[.int .i64 n, .int .i64 7] w fun e w' => e = .returned (.int .u32 (put5 n 7)) ∧ w = w') := Lib.hid fun n w => put_any n 7 (by omega) w
  have H15 : Hid (∀ n w, Calls Tryz.prog 85 #[.int .i64 n, .int .i64 15] w fun e w' => e = .returned (.int .u32 (put5 n 15)) ∧ w = w') := Lib.hid fun n w => put_any n 15 (by omega) w
  have H20 : Hid (∀ n w, Calls Tryz.prog 85 #[.int .i64 n, .int .i64 20] w fun e w' => e = .returned (.int .u32 (put5 n 20)) ∧ w = w') := Lib.hid fun n w => put_any n 20 (by omega) w
  have H8 : Hid (∀ n w, Calls Tryz.prog 87 #[.int .i64 8, .int .i64 n] w fun e w' => e = .returned (.tuple #[.int .u32 (putF 8 n), .bool (fitB 8 n)]) ∧ Below w.heap.size w w') := Lib.hid fun n w => progPutF 8 (by omega) n w
  have HI : Hid (∀ n w, Calls Tryz.prog 87 #[.int .i64 0, .int .i64 n] w fun e w' => e = .returned (.tuple #[.int .u32 (putF 0 n), .bool (fitB 0 n)]) ∧ Below w.heap.size w w') := Lib.hid fun n w => progPutF 0 (by omega) n w
  go_enter Tryz.func54, Tryz.ntmps54
  go_wp2_with (first
    | (go_at_call 87; (with_reducible refine (HI.out _ _).mono ?_); rintro e ww2 ⟨rfl, hb2⟩; obtain ⟨HB2, hp, hq, hs⟩ := rows2 hb2; clear hb2 hp hq))
  go_ret
  exact ⟨rfl, HB2.out⟩

set_option maxHeartbeats 1000000 in
theorem write_11 (i : Ins) (w : World) :
    Calls Tryz.prog 54 #[.agg #[.int .u32 4261445631, .bool false, .bool true, .bool true, .int .i64 0, .bool false, .bool false], .agg #[.int .i64 i.op, .int .i64 i.rd, .int .i64 i.a, .int .i64 i.b, .int .i64 i.imm, .int .i64 i.csr, .bool i.aq, .bool i.rl]] w fun e w' => e = .returned (.int .u32 (bits .or .u32 (bits .or .u32 (bits .or .u32 (0) (put5 i.a 15)) (put5 i.b 20)) (putF 0 i.imm))) ∧ Below w.heap.size w w' := by
  have H7 : Hid (∀ n w, Calls Tryz.prog 85 #[.int .i64 n, .int .i64 7] w fun e w' => e = .returned (.int .u32 (put5 n 7)) ∧ w = w') := Lib.hid fun n w => put_any n 7 (by omega) w
  have H15 : Hid (∀ n w, Calls Tryz.prog 85 #[.int .i64 n, .int .i64 15] w fun e w' => e = .returned (.int .u32 (put5 n 15)) ∧ w = w') := Lib.hid fun n w => put_any n 15 (by omega) w
  have H20 : Hid (∀ n w, Calls Tryz.prog 85 #[.int .i64 n, .int .i64 20] w fun e w' => e = .returned (.int .u32 (put5 n 20)) ∧ w = w') := Lib.hid fun n w => put_any n 20 (by omega) w
  have H8 : Hid (∀ n w, Calls Tryz.prog 87 #[.int .i64 8, .int .i64 n] w fun e w' => e = .returned (.tuple #[.int .u32 (putF 8 n), .bool (fitB 8 n)]) ∧ Below w.heap.size w w') := Lib.hid fun n w => progPutF 8 (by omega) n w
  have HI : Hid (∀ n w, Calls Tryz.prog 87 #[.int .i64 0, .int .i64 n] w fun e w' => e = .returned (.tuple #[.int .u32 (putF 0 n), .bool (fitB 0 n)]) ∧ Below w.heap.size w w') := Lib.hid fun n w => progPutF 0 (by omega) n w
  go_enter Tryz.func54, Tryz.ntmps54
  go_wp2_with (first
    | (go_at_call 85; (with_reducible refine (H15.out _ _).mono ?_); rintro e w3 ⟨rfl, rfl⟩)
    | (go_at_call 85; (with_reducible refine (H20.out _ _).mono ?_); rintro e w3 ⟨rfl, rfl⟩)
    | (go_at_call 87; (with_reducible refine (HI.out _ _).mono ?_); rintro e ww2 ⟨rfl, hb2⟩; obtain ⟨HB2, hp, hq, hs⟩ := rows2 hb2; clear hb2 hp hq))
  go_ret
  exact ⟨rfl, HB2.out⟩

set_option maxHeartbeats 1000000 in
theorem write_12 (i : Ins) (w : World) :
    Calls Tryz.prog 54 #[.agg #[.int .u32 28799, .bool true, .bool true, .bool false, .int .i64 0, .bool true, .bool false], .agg #[.int .i64 i.op, .int .i64 i.rd, .int .i64 i.a, .int .i64 i.b, .int .i64 i.imm, .int .i64 i.csr, .bool i.aq, .bool i.rl]] w fun e w' => e = .returned (.int .u32 (bits .or .u32 (bits .or .u32 (bits .or .u32 (bits .or .u32 0 (put5 i.rd 7)) (put5 i.a 15)) (putF 8 i.csr)) (putF 0 i.imm))) ∧ Below w.heap.size w w' := by
  have H7 : Hid (∀ n w, Calls Tryz.prog 85 #[.int .i64 n, .int .i64 7] w fun e w' => e = .returned (.int .u32 (put5 n 7)) ∧ w = w') := Lib.hid fun n w => put_any n 7 (by omega) w
  have H15 : Hid (∀ n w, Calls Tryz.prog 85 #[.int .i64 n, .int .i64 15] w fun e w' => e = .returned (.int .u32 (put5 n 15)) ∧ w = w') := Lib.hid fun n w => put_any n 15 (by omega) w
  have H20 : Hid (∀ n w, Calls Tryz.prog 85 #[.int .i64 n, .int .i64 20] w fun e w' => e = .returned (.int .u32 (put5 n 20)) ∧ w = w') := Lib.hid fun n w => put_any n 20 (by omega) w
  have H8 : Hid (∀ n w, Calls Tryz.prog 87 #[.int .i64 8, .int .i64 n] w fun e w' => e = .returned (.tuple #[.int .u32 (putF 8 n), .bool (fitB 8 n)]) ∧ Below w.heap.size w w') := Lib.hid fun n w => progPutF 8 (by omega) n w
  have HI : Hid (∀ n w, Calls Tryz.prog 87 #[.int .i64 0, .int .i64 n] w fun e w' => e = .returned (.tuple #[.int .u32 (putF 0 n), .bool (fitB 0 n)]) ∧ Below w.heap.size w w') := Lib.hid fun n w => progPutF 0 (by omega) n w
  go_enter Tryz.func54, Tryz.ntmps54
  go_wp2_with (first
    | (go_at_call 85; (with_reducible refine (H7.out _ _).mono ?_); rintro e w3 ⟨rfl, rfl⟩)
    | (go_at_call 85; (with_reducible refine (H15.out _ _).mono ?_); rintro e w3 ⟨rfl, rfl⟩)
    | (go_at_call 87; (with_reducible refine (H8.out _ _).mono ?_); rintro e ww1 ⟨rfl, hb1⟩; obtain ⟨HB1, hp, hq, hs⟩ := rows2 hb1; have p4 : ww1.cell? ⟨w.heap.size, 4, none⟩ = some (.int .i64 0) := (by rw [hp]; rfl); have q4 : ww1.cell? ⟨w.heap.size + 1, 4, none⟩ = some (.int .i64 i.imm) := (by rw [hq]; rfl); clear hb1 hp hq)
    | (go_at_call 87; (with_reducible refine (HI.out _ _).mono ?_); rintro e ww2 ⟨rfl, hb2⟩; have HB2 : Hid (Below w.heap.size w ww2) := Lib.hid (HB1.out.trans (hb2.mono (by omega))); clear hb2))
  go_ret
  exact ⟨rfl, HB2.out⟩

set_option maxHeartbeats 1000000 in
theorem write_13 (i : Ins) (w : World) :
    Calls Tryz.prog 54 #[.agg #[.int .u32 28799, .bool true, .bool false, .bool false, .int .i64 9, .bool true, .bool false], .agg #[.int .i64 i.op, .int .i64 i.rd, .int .i64 i.a, .int .i64 i.b, .int .i64 i.imm, .int .i64 i.csr, .bool i.aq, .bool i.rl]] w fun e w' => e = .returned (.int .u32 (bits .or .u32 (bits .or .u32 (bits .or .u32 0 (put5 i.rd 7)) (putF 8 i.csr)) (putF 9 i.imm))) ∧ Below w.heap.size w w' := by
  have H7 : Hid (∀ n w, Calls Tryz.prog 85 #[.int .i64 n, .int .i64 7] w fun e w' => e = .returned (.int .u32 (put5 n 7)) ∧ w = w') := Lib.hid fun n w => put_any n 7 (by omega) w
  have H15 : Hid (∀ n w, Calls Tryz.prog 85 #[.int .i64 n, .int .i64 15] w fun e w' => e = .returned (.int .u32 (put5 n 15)) ∧ w = w') := Lib.hid fun n w => put_any n 15 (by omega) w
  have H20 : Hid (∀ n w, Calls Tryz.prog 85 #[.int .i64 n, .int .i64 20] w fun e w' => e = .returned (.int .u32 (put5 n 20)) ∧ w = w') := Lib.hid fun n w => put_any n 20 (by omega) w
  have H8 : Hid (∀ n w, Calls Tryz.prog 87 #[.int .i64 8, .int .i64 n] w fun e w' => e = .returned (.tuple #[.int .u32 (putF 8 n), .bool (fitB 8 n)]) ∧ Below w.heap.size w w') := Lib.hid fun n w => progPutF 8 (by omega) n w
  have HI : Hid (∀ n w, Calls Tryz.prog 87 #[.int .i64 9, .int .i64 n] w fun e w' => e = .returned (.tuple #[.int .u32 (putF 9 n), .bool (fitB 9 n)]) ∧ Below w.heap.size w w') := Lib.hid fun n w => progPutF 9 (by omega) n w
  go_enter Tryz.func54, Tryz.ntmps54
  go_wp2_with (first
    | (go_at_call 85; (with_reducible refine (H7.out _ _).mono ?_); rintro e w3 ⟨rfl, rfl⟩)
    | (go_at_call 87; (with_reducible refine (H8.out _ _).mono ?_); rintro e ww1 ⟨rfl, hb1⟩; obtain ⟨HB1, hp, hq, hs⟩ := rows2 hb1; have p4 : ww1.cell? ⟨w.heap.size, 4, none⟩ = some (.int .i64 9) := (by rw [hp]; rfl); have q4 : ww1.cell? ⟨w.heap.size + 1, 4, none⟩ = some (.int .i64 i.imm) := (by rw [hq]; rfl); clear hb1 hp hq)
    | (go_at_call 87; (with_reducible refine (HI.out _ _).mono ?_); rintro e ww2 ⟨rfl, hb2⟩; have HB2 : Hid (Below w.heap.size w ww2) := Lib.hid (HB1.out.trans (hb2.mono (by omega))); clear hb2))
  go_ret
  exact ⟨rfl, HB2.out⟩

set_option maxHeartbeats 1000000 in
theorem write_14 (i : Ins) (w : World) :
    Calls Tryz.prog 54 #[.agg #[.int .u32 4293947519, .bool true, .bool true, .bool false, .int .i64 0, .bool false, .bool false], .agg #[.int .i64 i.op, .int .i64 i.rd, .int .i64 i.a, .int .i64 i.b, .int .i64 i.imm, .int .i64 i.csr, .bool i.aq, .bool i.rl]] w fun e w' => e = .returned (.int .u32 (bits .or .u32 (bits .or .u32 (bits .or .u32 0 (put5 i.rd 7)) (put5 i.a 15)) (putF 0 i.imm))) ∧ Below w.heap.size w w' := by
  have H7 : Hid (∀ n w, Calls Tryz.prog 85 #[.int .i64 n, .int .i64 7] w fun e w' => e = .returned (.int .u32 (put5 n 7)) ∧ w = w') := Lib.hid fun n w => put_any n 7 (by omega) w
  have H15 : Hid (∀ n w, Calls Tryz.prog 85 #[.int .i64 n, .int .i64 15] w fun e w' => e = .returned (.int .u32 (put5 n 15)) ∧ w = w') := Lib.hid fun n w => put_any n 15 (by omega) w
  have H20 : Hid (∀ n w, Calls Tryz.prog 85 #[.int .i64 n, .int .i64 20] w fun e w' => e = .returned (.int .u32 (put5 n 20)) ∧ w = w') := Lib.hid fun n w => put_any n 20 (by omega) w
  have H8 : Hid (∀ n w, Calls Tryz.prog 87 #[.int .i64 8, .int .i64 n] w fun e w' => e = .returned (.tuple #[.int .u32 (putF 8 n), .bool (fitB 8 n)]) ∧ Below w.heap.size w w') := Lib.hid fun n w => progPutF 8 (by omega) n w
  have HI : Hid (∀ n w, Calls Tryz.prog 87 #[.int .i64 0, .int .i64 n] w fun e w' => e = .returned (.tuple #[.int .u32 (putF 0 n), .bool (fitB 0 n)]) ∧ Below w.heap.size w w') := Lib.hid fun n w => progPutF 0 (by omega) n w
  go_enter Tryz.func54, Tryz.ntmps54
  go_wp2_with (first
    | (go_at_call 85; (with_reducible refine (H7.out _ _).mono ?_); rintro e w3 ⟨rfl, rfl⟩)
    | (go_at_call 85; (with_reducible refine (H15.out _ _).mono ?_); rintro e w3 ⟨rfl, rfl⟩)
    | (go_at_call 87; (with_reducible refine (HI.out _ _).mono ?_); rintro e ww2 ⟨rfl, hb2⟩; obtain ⟨HB2, hp, hq, hs⟩ := rows2 hb2; clear hb2 hp hq))
  go_ret
  exact ⟨rfl, HB2.out⟩

end Go.Proofs.YtakdhdaoklcidaaGreatDoor

namespace Go.Proofs.YtakdhdaoklcidaaGreatDoor
open Go.RowKit
set_option linter.unusedVariables false
set_option maxRecDepth 100000

theorem says_is_0 (op x : Int) : says (frm 0) op x = ⟨op, fldZ x 11 7, 0, 0, (formL 4).number x, 0, false, false⟩ := by simp [says, frm]

theorem says_is_1 (op x : Int) : says (frm 1) op x = ⟨op, fldZ x 11 7, 0, 0, (formL 5).number x, 0, false, false⟩ := by simp [says, frm]

theorem says_is_2 (op x : Int) : says (frm 2) op x = ⟨op, fldZ x 11 7, fldZ x 19 15, 0, (formL 1).number x, 0, false, false⟩ := by simp [says, frm]

theorem says_is_3 (op x : Int) : says (frm 3) op x = ⟨op, 0, fldZ x 19 15, fldZ x 24 20, (formL 3).number x, 0, false, false⟩ := by simp [says, frm]

theorem says_is_4 (op x : Int) : says (frm 4) op x = ⟨op, 0, fldZ x 19 15, fldZ x 24 20, (formL 2).number x, 0, false, false⟩ := by simp [says, frm]

theorem says_is_5 (op x : Int) : says (frm 5) op x = ⟨op, fldZ x 11 7, fldZ x 19 15, 0, (formL 6).number x, 0, false, false⟩ := by simp [says, frm]

theorem says_is_6 (op x : Int) : says (frm 6) op x = ⟨op, fldZ x 11 7, fldZ x 19 15, 0, (formL 7).number x, 0, false, false⟩ := by simp [says, frm]

theorem says_is_7 (op x : Int) : says (frm 7) op x = ⟨op, fldZ x 11 7, fldZ x 19 15, fldZ x 24 20, 0, 0, false, false⟩ := by simp [says, frm, number0]

theorem says_is_8 (op x : Int) : says (frm 8) op x = ⟨op, fldZ x 11 7, fldZ x 19 15, 0, 0, 0, fldZ x 26 26 == 1, fldZ x 25 25 == 1⟩ := by simp [says, frm, number0]

theorem says_is_9 (op x : Int) : says (frm 9) op x = ⟨op, fldZ x 11 7, fldZ x 19 15, fldZ x 24 20, 0, 0, fldZ x 26 26 == 1, fldZ x 25 25 == 1⟩ := by simp [says, frm, number0]

theorem says_is_10 (op x : Int) : says (frm 10) op x = ⟨op, 0, 0, 0, 0, 0, false, false⟩ := by simp [says, frm, number0]

theorem says_is_11 (op x : Int) : says (frm 11) op x = ⟨op, 0, fldZ x 19 15, fldZ x 24 20, 0, 0, false, false⟩ := by simp [says, frm, number0]

theorem says_is_12 (op x : Int) : says (frm 12) op x = ⟨op, fldZ x 11 7, fldZ x 19 15, 0, 0, fldZ x 31 20, false, false⟩ := by simp [says, frm, number0]

theorem says_is_13 (op x : Int) : says (frm 13) op x = ⟨op, fldZ x 11 7, 0, 0, (formL 9).number x, fldZ x 31 20, false, false⟩ := by simp [says, frm]

theorem says_is_14 (op x : Int) : says (frm 14) op x = ⟨op, fldZ x 11 7, fldZ x 19 15, 0, 0, 0, false, false⟩ := by simp [says, frm, number0]

theorem read_any (f : Nat) (hf : f < 15) (op x : Int) (w : World) :
    Calls Tryz.prog 55 #[.agg #[.int .u32 (frm f).mask, .bool (frm f).rd, .bool (frm f).a, .bool (frm f).b, .int .i64 (frm f).imm, .bool (frm f).csr, .bool (frm f).ord], .int .i64 op, .int .u32 x] w fun e w' => e = .returned (.agg #[.int .i64 (says (frm f) op x).op, .int .i64 (says (frm f) op x).rd, .int .i64 (says (frm f) op x).a, .int .i64 (says (frm f) op x).b, .int .i64 (says (frm f) op x).imm, .int .i64 (says (frm f) op x).csr, .bool (says (frm f) op x).aq, .bool (says (frm f) op x).rl]) ∧ Below w.heap.size w w' :=
  match f, hf with
  | 0, _ => by rw [says_is_0]; exact read_0 op x w
  | 1, _ => by rw [says_is_1]; exact read_1 op x w
  | 2, _ => by rw [says_is_2]; exact read_2 op x w
  | 3, _ => by rw [says_is_3]; exact read_3 op x w
  | 4, _ => by rw [says_is_4]; exact read_4 op x w
  | 5, _ => by rw [says_is_5]; exact read_5 op x w
  | 6, _ => by rw [says_is_6]; exact read_6 op x w
  | 7, _ => by rw [says_is_7]; exact read_7 op x w
  | 8, _ => by rw [says_is_8]; exact read_8 op x w
  | 9, _ => by rw [says_is_9]; exact read_9 op x w
  | 10, _ => by rw [says_is_10]; exact read_10 op x w
  | 11, _ => by rw [says_is_11]; exact read_11 op x w
  | 12, _ => by rw [says_is_12]; exact read_12 op x w
  | 13, _ => by rw [says_is_13]; exact read_13 op x w
  | 14, _ => by rw [says_is_14]; exact read_14 op x w
  | f + 15, h => absurd h (by omega)

theorem wF_is_0 (i : Ins) : wF (frm 0) i = bits .or .u32 (bits .or .u32 0 (put5 i.rd 7)) (putF 4 i.imm) := by simp [wF, w5, w4, w3, w2, w1, frm]

theorem wF_is_1 (i : Ins) : wF (frm 1) i = bits .or .u32 (bits .or .u32 0 (put5 i.rd 7)) (putF 5 i.imm) := by simp [wF, w5, w4, w3, w2, w1, frm]

theorem wF_is_2 (i : Ins) : wF (frm 2) i = bits .or .u32 (bits .or .u32 (bits .or .u32 0 (put5 i.rd 7)) (put5 i.a 15)) (putF 1 i.imm) := by simp [wF, w5, w4, w3, w2, w1, frm]

theorem wF_is_3 (i : Ins) : wF (frm 3) i = bits .or .u32 (bits .or .u32 (bits .or .u32 (0) (put5 i.a 15)) (put5 i.b 20)) (putF 3 i.imm) := by simp [wF, w5, w4, w3, w2, w1, frm]

theorem wF_is_4 (i : Ins) : wF (frm 4) i = bits .or .u32 (bits .or .u32 (bits .or .u32 (0) (put5 i.a 15)) (put5 i.b 20)) (putF 2 i.imm) := by simp [wF, w5, w4, w3, w2, w1, frm]

theorem wF_is_5 (i : Ins) : wF (frm 5) i = bits .or .u32 (bits .or .u32 (bits .or .u32 0 (put5 i.rd 7)) (put5 i.a 15)) (putF 6 i.imm) := by simp [wF, w5, w4, w3, w2, w1, frm]

theorem wF_is_6 (i : Ins) : wF (frm 6) i = bits .or .u32 (bits .or .u32 (bits .or .u32 0 (put5 i.rd 7)) (put5 i.a 15)) (putF 7 i.imm) := by simp [wF, w5, w4, w3, w2, w1, frm]

theorem wF_is_7 (i : Ins) : wF (frm 7) i = bits .or .u32 (bits .or .u32 (bits .or .u32 (bits .or .u32 0 (put5 i.rd 7)) (put5 i.a 15)) (put5 i.b 20)) (putF 0 i.imm) := by simp [wF, w5, w4, w3, w2, w1, frm]

theorem wF_is_8 (i : Ins) : wF (frm 8) i = bits .or .u32 (bits .or .u32 (bits .or .u32 (bits .or .u32 0 (put5 i.rd 7)) (put5 i.a 15)) (bits .or .u32 (markZ i.aq 26) (markZ i.rl 25))) (putF 0 i.imm) := by simp [wF, w5, w4, w3, w2, w1, frm]

theorem wF_is_9 (i : Ins) : wF (frm 9) i = bits .or .u32 (bits .or .u32 (bits .or .u32 (bits .or .u32 (bits .or .u32 0 (put5 i.rd 7)) (put5 i.a 15)) (put5 i.b 20)) (bits .or .u32 (markZ i.aq 26) (markZ i.rl 25))) (putF 0 i.imm) := by simp [wF, w5, w4, w3, w2, w1, frm]

theorem wF_is_10 (i : Ins) : wF (frm 10) i = bits .or .u32 (0) (putF 0 i.imm) := by simp [wF, w5, w4, w3, w2, w1, frm]

theorem wF_is_11 (i : Ins) : wF (frm 11) i = bits .or .u32 (bits .or .u32 (bits .or .u32 (0) (put5 i.a 15)) (put5 i.b 20)) (putF 0 i.imm) := by simp [wF, w5, w4, w3, w2, w1, frm]

theorem wF_is_12 (i : Ins) : wF (frm 12) i = bits .or .u32 (bits .or .u32 (bits .or .u32 (bits .or .u32 0 (put5 i.rd 7)) (put5 i.a 15)) (putF 8 i.csr)) (putF 0 i.imm) := by simp [wF, w5, w4, w3, w2, w1, frm]

theorem wF_is_13 (i : Ins) : wF (frm 13) i = bits .or .u32 (bits .or .u32 (bits .or .u32 0 (put5 i.rd 7)) (putF 8 i.csr)) (putF 9 i.imm) := by simp [wF, w5, w4, w3, w2, w1, frm]

theorem wF_is_14 (i : Ins) : wF (frm 14) i = bits .or .u32 (bits .or .u32 (bits .or .u32 0 (put5 i.rd 7)) (put5 i.a 15)) (putF 0 i.imm) := by simp [wF, w5, w4, w3, w2, w1, frm]

theorem write_any (f : Nat) (hf : f < 15) (i : Ins) (w : World) :
    Calls Tryz.prog 54 #[.agg #[.int .u32 (frm f).mask, .bool (frm f).rd, .bool (frm f).a, .bool (frm f).b, .int .i64 (frm f).imm, .bool (frm f).csr, .bool (frm f).ord], .agg #[.int .i64 i.op, .int .i64 i.rd, .int .i64 i.a, .int .i64 i.b, .int .i64 i.imm, .int .i64 i.csr, .bool i.aq, .bool i.rl]] w fun e w' => e = .returned (.int .u32 (wF (frm f) i)) ∧ Below w.heap.size w w' :=
  match f, hf with
  | 0, _ => by rw [wF_is_0]; exact write_0 i w
  | 1, _ => by rw [wF_is_1]; exact write_1 i w
  | 2, _ => by rw [wF_is_2]; exact write_2 i w
  | 3, _ => by rw [wF_is_3]; exact write_3 i w
  | 4, _ => by rw [wF_is_4]; exact write_4 i w
  | 5, _ => by rw [wF_is_5]; exact write_5 i w
  | 6, _ => by rw [wF_is_6]; exact write_6 i w
  | 7, _ => by rw [wF_is_7]; exact write_7 i w
  | 8, _ => by rw [wF_is_8]; exact write_8 i w
  | 9, _ => by rw [wF_is_9]; exact write_9 i w
  | 10, _ => by rw [wF_is_10]; exact write_10 i w
  | 11, _ => by rw [wF_is_11]; exact write_11 i w
  | 12, _ => by rw [wF_is_12]; exact write_12 i w
  | 13, _ => by rw [wF_is_13]; exact write_13 i w
  | 14, _ => by rw [wF_is_14]; exact write_14 i w
  | f + 15, h => absurd h (by omega)

end Go.Proofs.YtakdhdaoklcidaaGreatDoor

namespace Go.Proofs.YtakdhdaoklcidaaGreatDoor
open Go.RowKit
set_option linter.unusedVariables false
set_option maxRecDepth 100000

/-- The answer's block still holds nothing. -/
structure Zr (w wr : World) : Prop where
  bel : Below w.heap.size w wr
  row : wr.heap[w.heap.size]? = some (.cells #[.int .i64 0, .int .i64 0, .int .i64 0, .int .i64 0, .int .i64 0, .int .i64 0, .bool false, .bool false] 23 (0, 0))

theorem Zr.lt {w wr : World} (h : Zr w wr) : w.heap.size < wr.heap.size := (Array.getElem?_eq_some_iff.1 h.row).1

theorem Zr.go {w wr w2 : World} (h : Zr w wr) (hb : Below wr.heap.size wr w2) : Zr w w2 := ⟨h.bel.trans (hb.mono (Nat.le_of_lt h.lt)), (hb.block _ h.lt).trans h.row⟩

theorem Zr.alloc {w wr : World} (h : Zr w wr) (o : Obj) : Zr w (wr.alloc o) := h.go ((Below.refl _ _).alloc (Nat.le_refl _) _)

theorem Zr.tab {w wr : World} (h : Zr w wr) (ht : Tab w) : Tab wr := ht.below h.bel

theorem forms_at {w : World} (ht : Tab w) {f : Nat} (hf : f < 15) : w.cell? ⟨0, f * 7, none⟩ = some (.int .u32 (frm f).mask) ∧ w.cell? ⟨0, f * 7 + 1, none⟩ = some (.bool (frm f).rd) ∧ w.cell? ⟨0, f * 7 + 2, none⟩ = some (.bool (frm f).a) ∧ w.cell? ⟨0, f * 7 + 3, none⟩ = some (.bool (frm f).b) ∧ w.cell? ⟨0, f * 7 + 4, none⟩ = some (.int .i64 (frm f).imm) ∧ w.cell? ⟨0, f * 7 + 5, none⟩ = some (.bool (frm f).csr) ∧ w.cell? ⟨0, f * 7 + 6, none⟩ = some (.bool (frm f).ord) := by
  obtain ⟨a, b, c, d, e, g, h⟩ := forms_row f hf
  exact ⟨ht.cell a, ht.cell b, ht.cell c, ht.cell d, ht.cell e, ht.cell g, ht.cell h⟩

end Go.Proofs.YtakdhdaoklcidaaGreatDoor

namespace Go.Proofs.YtakdhdaoklcidaaGreatDoor
open Go.RowKit
set_option linter.unusedVariables false
set_option maxRecDepth 100000

theorem name_yes (k : Nat) (h1 : 1 ≤ k) (h2 : k ≤ 113) (w : World) :
    Calls Tryz.prog 25 #[.int .i64 k] w fun e w' => e = .returned (.string (nameT k)) ∧ Below w.heap.size w w' := by
  have HF := Lib.hid (dfind_any k h1 h2)
  generalize nameT k = nm at *
  generalize matT k = mt at *
  generalize frmT k = f at *
  clear h1 h2
  go_enter Tryz.func25, Tryz.ntmps25
  go_wp2_with (go_at_call 53; (with_reducible refine (HF.out _).mono ?_); rintro e1 w1 ⟨rfl, hb1⟩)
  go_ret
  exact ⟨rfl, hb1.alloc hb1.size _⟩
/-- Whether a name is a text. -/
def sameT (k : Nat) (s : ByteArray) : Bool := (nameT k).toList == s.toList
set_option maxHeartbeats 1000000 in
theorem op_yes (k : Nat) (h1 : 1 ≤ k) (h2 : k ≤ 113) (s : ByteArray) (hk : sameT k s = true) (hno : ∀ j, 1 ≤ j → j < k → sameT j s = false) (w : World) :
    Calls Tryz.prog 37 #[.string s] w fun e w' => e = .returned (.int .i64 k) ∧ Below w.heap.size w w' := by
  have HK := Lib.hid hk
  have HNO := Lib.hid hno
  clear hk hno
  go_enter Tryz.func37, Tryz.ntmps37
  go_wp2
  go_loopw [3] (fun i wr => ∃ j : Nat, 1 ≤ j ∧ j ≤ k ∧ i = .int .i64 j ∧ Below w.heap.size w wr) (fun i _ => (k + 1 - intOf i).toNat)
  case atStart => exact ⟨1, by omega, h1, rfl, Below.refl _ _⟩
  case round =>
    obtain ⟨j, hj1, hj2, rfl, hz⟩ := hrel
    have HZ := Lib.hid hz
    clear hz
    have hj3 : (j : Int) ≤ 113 := by omega
    have HF := Lib.hid fun w => name_yes j hj1 (by omega) w
    by_cases e : j < k
    · have hq : ((nameT j).toList == s.toList) = false := HNO.out j hj1 e
      generalize nameT j = nm at *
      clear hj1
      go_wp2_with (go_at_call 25; (with_reducible refine (HF.out _).mono ?_); rintro e1 w1 ⟨rfl, hb1⟩; have HZ1 := Lib.hid (HZ.out.trans (hb1.mono HZ.out.size)); clear hb1)
      go_roundw
      case rel => exact ⟨j + 1, by omega, by omega, by go_num, HZ1.out⟩
      case measure => simp [intOf]; omega
    · obtain rfl : j = k := by omega
      have hq : ((nameT j).toList == s.toList) = true := HK.out
      generalize nameT j = nm at *
      clear hj1
      go_wp2_with (go_at_call 25; (with_reducible refine (HF.out _).mono ?_); rintro e1 w1 ⟨rfl, hb1⟩; have HZ1 := Lib.hid (HZ.out.trans (hb1.mono HZ.out.size)); clear hb1)
      go_ret
      exact ⟨rfl, HZ1.out⟩
set_option maxHeartbeats 1000000 in
theorem op_no (s : ByteArray) (hno : ∀ j, 1 ≤ j → j ≤ 113 → sameT j s = false) (w : World) :
    Calls Tryz.prog 37 #[.string s] w fun e w' => e = .returned (.int .i64 0) ∧ Below w.heap.size w w' := by
  have HNO := Lib.hid hno
  clear hno
  go_enter Tryz.func37, Tryz.ntmps37
  go_wp2
  go_loopw [3] (fun i wr => ∃ j : Nat, 1 ≤ j ∧ j ≤ 114 ∧ i = .int .i64 j ∧ Below w.heap.size w wr) (fun i _ => (115 - intOf i).toNat)
  case atStart => exact ⟨1, by omega, by omega, rfl, Below.refl _ _⟩
  case round =>
    obtain ⟨j, hj1, hj2, rfl, hz⟩ := hrel
    have HZ := Lib.hid hz
    clear hz
    by_cases e : j ≤ 113
    · have hj3 : (j : Int) ≤ 113 := by omega
      have HF := Lib.hid fun w => name_yes j hj1 (by omega) w
      have hq : ((nameT j).toList == s.toList) = false := HNO.out j hj1 e
      generalize nameT j = nm at *
      clear hj1
      go_wp2_with (go_at_call 25; (with_reducible refine (HF.out _).mono ?_); rintro e1 w1 ⟨rfl, hb1⟩; have HZ1 := Lib.hid (HZ.out.trans (hb1.mono HZ.out.size)); clear hb1)
      go_roundw
      case rel => exact ⟨j + 1, by omega, by omega, by go_num, HZ1.out⟩
      case measure => simp [intOf]; omega
    · obtain rfl : j = 114 := by omega
      go_wp2
      go_ret
      exact ⟨rfl, HZ.out⟩

theorem eq_ins (u v : Ins) (w : World) : (Op.equalIn 10000 23 (.agg #[.int .i64 u.op, .int .i64 u.rd, .int .i64 u.a, .int .i64 u.b, .int .i64 u.imm, .int .i64 u.csr, .bool u.aq, .bool u.rl]) (.agg #[.int .i64 v.op, .int .i64 v.rd, .int .i64 v.a, .int .i64 v.b, .int .i64 v.imm, .int .i64 v.csr, .bool v.aq, .bool v.rl])).run Tryz.prog w = .ok (eqI u v) w := by
  simp [go_sem, eqI]
  repeat' split
  all_goals simp_all
theorem neq_ins (u v : Ins) (w : World) : (binOp .neq 23 (.agg #[.int .i64 u.op, .int .i64 u.rd, .int .i64 u.a, .int .i64 u.b, .int .i64 u.imm, .int .i64 u.csr, .bool u.aq, .bool u.rl]) (.agg #[.int .i64 v.op, .int .i64 v.rd, .int .i64 v.a, .int .i64 v.b, .int .i64 v.imm, .int .i64 v.csr, .bool v.aq, .bool v.rl])).run Tryz.prog w = .ok (.bool (!eqI u v)) w := by
  rw [run_neq_struct, eq_ins]; rfl
set_option maxHeartbeats 1000000 in
theorem encode_none (i : Ins) (h : ¬ (1 ≤ i.op ∧ i.op ≤ 113)) (w : World) :
    Calls Tryz.prog 21 #[.agg #[.int .i64 i.op, .int .i64 i.rd, .int .i64 i.a, .int .i64 i.b, .int .i64 i.imm, .int .i64 i.csr, .bool i.aq, .bool i.rl]] w fun e w' => e = .returned (.tuple #[.int .u32 0, .int .i64 80]) ∧ Below w.heap.size w w' := by
  have HF := Lib.hid (dfind_none i.op h)
  clear h
  go_enter Tryz.func21, Tryz.ntmps21
  go_wp2_with (go_at_call 53; (with_reducible refine (HF.out _).mono ?_); rintro e1 w1 ⟨rfl, hb1⟩; have HB := Lib.hid (((Below.refl _ _).alloc (Nat.le_refl _) _).trans (hb1.mono (by simp))); clear hb1)
  go_ret2
  exact ⟨rfl, HB.out.alloc HB.out.size _⟩

end Go.Proofs.YtakdhdaoklcidaaGreatDoor
