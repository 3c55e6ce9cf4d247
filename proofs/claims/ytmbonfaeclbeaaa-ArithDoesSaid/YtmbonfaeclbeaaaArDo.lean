/- The contract of arith.Do: the operation is found in a table of rows. -/
import Derived.Test.YtmbonfaeclbeaaaArRef
namespace Go.Proofs.Ytmbonfaeclbeaaa
open Go.RowKit
set_option linter.unusedVariables false

/-- The table's cells: number, of halves or not, what does it. -/
def opsTbl : Array Value := #[.int .i64 0, .bool false, .func (.func 41) #[] #[], .int .i64 1, .bool false, .func (.func 11) #[] #[], .int .i64 2, .bool false, .func (.func 12) #[] #[], .int .i64 3, .bool false, .func (.func 13) #[] #[],
  .int .i64 4, .bool false, .func (.func 15) #[] #[], .int .i64 5, .bool false, .func (.func 16) #[] #[], .int .i64 6, .bool false, .func (.func 14) #[] #[], .int .i64 7, .bool false, .func (.func 17) #[] #[],
  .int .i64 0, .bool true, .func (.func 18) #[] #[], .int .i64 4, .bool true, .func (.func 19) #[] #[], .int .i64 5, .bool true, .func (.func 21) #[] #[], .int .i64 6, .bool true, .func (.func 20) #[] #[], .int .i64 7, .bool true, .func (.func 22) #[] #[]]
theorem opsTbl_def : (#[.int .i64 0, .bool false, .func (.func 41) #[] #[], .int .i64 1, .bool false, .func (.func 11) #[] #[], .int .i64 2, .bool false, .func (.func 12) #[] #[], .int .i64 3, .bool false, .func (.func 13) #[] #[],
  .int .i64 4, .bool false, .func (.func 15) #[] #[], .int .i64 5, .bool false, .func (.func 16) #[] #[], .int .i64 6, .bool false, .func (.func 14) #[] #[], .int .i64 7, .bool false, .func (.func 17) #[] #[],
  .int .i64 0, .bool true, .func (.func 18) #[] #[], .int .i64 4, .bool true, .func (.func 19) #[] #[], .int .i64 5, .bool true, .func (.func 21) #[] #[], .int .i64 6, .bool true, .func (.func 20) #[] #[], .int .i64 7, .bool true, .func (.func 22) #[] #[]] : Array Value) = opsTbl := rfl
def opsZero : Array Value := #[.int .i64 0, .bool false, .nilFunc, .int .i64 0, .bool false, .nilFunc, .int .i64 0, .bool false, .nilFunc, .int .i64 0, .bool false, .nilFunc, .int .i64 0, .bool false, .nilFunc, .int .i64 0, .bool false, .nilFunc, .int .i64 0, .bool false, .nilFunc, .int .i64 0, .bool false, .nilFunc, .int .i64 0, .bool false, .nilFunc, .int .i64 0, .bool false, .nilFunc, .int .i64 0, .bool false, .nilFunc, .int .i64 0, .bool false, .nilFunc, .int .i64 0, .bool false, .nilFunc]
theorem opsZero_def : (#[.int .i64 0, .bool false, .nilFunc, .int .i64 0, .bool false, .nilFunc, .int .i64 0, .bool false, .nilFunc, .int .i64 0, .bool false, .nilFunc, .int .i64 0, .bool false, .nilFunc, .int .i64 0, .bool false, .nilFunc, .int .i64 0, .bool false, .nilFunc, .int .i64 0, .bool false, .nilFunc, .int .i64 0, .bool false, .nilFunc, .int .i64 0, .bool false, .nilFunc, .int .i64 0, .bool false, .nilFunc, .int .i64 0, .bool false, .nilFunc, .int .i64 0, .bool false, .nilFunc] : Array Value) = opsZero := rfl
theorem opsTbl_one : opsTbl.all (·.oneCell') = true := by unfold opsTbl; simp [Value.oneCell']
theorem opsTbl_size : opsTbl.size = 39 := rfl
theorem size_ops : (Try.prog.info? 42).map (·.size) = some 39 := by kernel_rfl

set_option maxRecDepth 100000 in
theorem operations_any (w : World) : Calls Try.prog 43 #[] w fun e w' => e = .returned (.agg opsTbl) ∧ Below w.heap.size w w' := by
  go_enter Try.func43, Try.ntmps43
  go_wp2_with (refine wpList_store_row rfl _ _ _ rfl w.heap.size _ rfl rfl 42 _ (heap_alloc_new w _) size_ops rfl opsTbl_one ?_)
  simp only [opsTbl_def, opsZero_def]
  have h1 := setRow_heap (w.alloc (.cells opsZero 42)) w.heap.size _ opsTbl 42 (0, 0) (heap_alloc_new w _)
  have hb : Below w.heap.size w ((w.alloc (.cells opsZero 42)).setRow w.heap.size opsTbl) := below_setRow ((Below.refl _ _).alloc (Nat.le_refl _) _) (Nat.le_refl _) _
  refine bodyPost_ret (v := .agg opsTbl) (results_cell_row (show Try.f43.results = #[.cell 0 42] by kernel_rfl) _ _ w.heap.size 42 _ _ _ rfl h1 Try.underlying42 rfl size_ops) rfl ⟨rfl, hb⟩

end Go.Proofs.Ytmbonfaeclbeaaa
