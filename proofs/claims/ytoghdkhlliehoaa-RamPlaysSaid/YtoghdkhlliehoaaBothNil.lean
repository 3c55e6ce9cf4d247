/- Layer 3's laws: any act by two memories that are none. -/
import Derived.Test.YtoghdkhlliehoaaBoth4
namespace Go.Proofs.Ytoghdkhlliehoaa
open Go.RowKit
set_option linter.unusedVariables false
set_option maxRecDepth 100000

/-- The program's calls of a memory that is none. -/
structure NilSpec where
  has : ∀ (x n : Int) (w : World), Calls Try.prog 26 #[.pointer none, .int .u64 x, .int .i64 n] w fun e w' => e = .returned (.bool false) ∧ ∃ k, w' = w.drewN k
  read : ∀ (x n : Int) (w : World), Calls Try.prog 17 #[.pointer none, .int .u64 x, .int .i64 n] w fun e w' => e = .returned (.tuple #[.int .u64 0, .bool false]) ∧ Below w.heap.size w w'
  write : ∀ (x n v : Int) (w : World), Calls Try.prog 16 #[.pointer none, .int .u64 x, .int .i64 n, .int .u64 v] w fun e w' => e = .returned (.bool false) ∧ Below w.heap.size w w'
  put : ∀ (x : Int) (a : Option Addr) (n c : Nat) (w : World), Calls Try.prog 21 #[.pointer none, .int .u64 x, .slice a n c] w fun e w' => e = .returned (.bool false) ∧ Below w.heap.size w w'
  bytes : ∀ (x n : Int) (w : World), Calls Try.prog 23 #[.pointer none, .int .u64 x, .int .i64 n] w (BytesEnd w [] false)

theorem bytesNil_any (x n : Int) (w : World) :
    Calls Try.prog 24 #[.pointer none, .int .u64 x, .int .i64 n] w fun e w' => e = .returned (.tuple #[.slice none 0 0, .bool false]) ∧ w = w' := by
  go_enter Try.func24, Try.ntmps24
  go_wp2_with (go_at_call 27; refine (refHas_nil _ _ _).mono ?_; rintro e w1 ⟨rfl, rfl⟩)
  go_ret2
  exact ⟨rfl, rfl⟩

/-- What 'both' leaves of two that are none. -/
def NilEnd (w : World) (e : Ending) (w' : World) : Prop := e = .returned (.bool true) ∧ Below w.heap.size w w'

theorem bothNil_write (R : NilSpec) (w : World) (a n v : Int) (bv : Value) :
    Calls Try.prog 10 #[.pointer none, .pointer none, .agg #[.int .i64 0, .int .u64 a, .int .i64 n, .int .u64 v, bv]] w (NilEnd w) := by
  have hA := ActBox.new w ⟨0, a, n, v, bv, []⟩
  have hB : Below w.heap.size w (w.alloc (.cells (actCells ⟨0, a, n, v, bv, []⟩) 40)) := (Below.refl _ _).alloc (Nat.le_refl _) _
  have HA := Lib.hid hA
  have HB := Lib.hid hB
  clear hA hB
  go_enter Try.func10, Try.ntmps10
  go_wp2_with fail
  refine (R.write a n v _).mono ?_
  rintro e w1 ⟨rfl, hE⟩
  obtain ⟨_, q1, q2, q3, q4⟩ := (HA.out.keeps (Only.of_below (fun _ => False) hE) id).cells
  have HE := Lib.hid hE
  clear hE
  go_wp2_with fail
  refine (wrNil_any a n v _).mono ?_
  rintro e w2 ⟨rfl, rfl⟩
  go_wp2
  go_ret
  exact ⟨rfl, HB.out.trans (HE.out.mono HB.out.size)⟩

theorem bothNil_read (R : NilSpec) (w : World) (a n v : Int) (bv : Value) :
    Calls Try.prog 10 #[.pointer none, .pointer none, .agg #[.int .i64 1, .int .u64 a, .int .i64 n, .int .u64 v, bv]] w (NilEnd w) := by
  have hA := ActBox.new w ⟨1, a, n, v, bv, []⟩
  have hB : Below w.heap.size w (w.alloc (.cells (actCells ⟨1, a, n, v, bv, []⟩) 40)) := (Below.refl _ _).alloc (Nat.le_refl _) _
  have HA := Lib.hid hA
  have HB := Lib.hid hB
  clear hA hB
  go_enter Try.func10, Try.ntmps10
  go_wp2_with fail
  refine (R.read a n _).mono ?_
  rintro e w1 ⟨rfl, hE⟩
  obtain ⟨_, q1, q2, q3, q4⟩ := (HA.out.keeps (Only.of_below (fun _ => False) hE) id).cells
  have HE := Lib.hid hE
  clear hE
  go_wp2_with fail
  refine (rdNil_any a n _).mono ?_
  rintro e w2 ⟨rfl, rfl⟩
  go_wp2
  go_ret
  exact ⟨rfl, HB.out.trans (HE.out.mono HB.out.size)⟩

theorem bothNil_has (R : NilSpec) (w : World) (a n v : Int) (bv : Value) :
    Calls Try.prog 10 #[.pointer none, .pointer none, .agg #[.int .i64 4, .int .u64 a, .int .i64 n, .int .u64 v, bv]] w (NilEnd w) := by
  have hB : Below w.heap.size w (w.alloc (.cells (actCells ⟨4, a, n, v, bv, []⟩) 40)) := (Below.refl _ _).alloc (Nat.le_refl _) _
  have HB := Lib.hid hB
  clear hB
  go_enter Try.func10, Try.ntmps10
  go_wp2_with fail
  go_quiet (first
    | (go_at_call 26; exact Calls.quiet_of (R.has a n _))
    | (go_at_call 27; exact Calls.quiet_of_same ((refHas_nil a n _).mono fun e w' h => ⟨h.1, h.2.symm⟩)))
  go_wp2
  go_ret
  exact ⟨rfl, below_drewN HB.out nq⟩

theorem bothNil_else (w : World) (d a n v : Int) (bv : Value) (hd : ¬ (d = 0 ∨ d = 1 ∨ d = 2 ∨ d = 3 ∨ d = 4)) :
    Calls Try.prog 10 #[.pointer none, .pointer none, .agg #[.int .i64 d, .int .u64 a, .int .i64 n, .int .u64 v, bv]] w (NilEnd w) := by
  have d0 : (d == 0) = false := by rw [beq_eq_false_iff_ne]; omega
  have d1 : (d == 1) = false := by rw [beq_eq_false_iff_ne]; omega
  have d2 : (d == 2) = false := by rw [beq_eq_false_iff_ne]; omega
  have d3 : (d == 3) = false := by rw [beq_eq_false_iff_ne]; omega
  have d4 : (d == 4) = false := by rw [beq_eq_false_iff_ne]; omega
  have hB : Below w.heap.size w (w.alloc (.cells (actCells ⟨d, a, n, v, bv, []⟩) 40)) := (Below.refl _ _).alloc (Nat.le_refl _) _
  have HB := Lib.hid hB
  clear hB hd
  go_enter Try.func10, Try.ntmps10
  go_wp2
  go_ret
  exact ⟨rfl, HB.out⟩

end Go.Proofs.Ytoghdkhlliehoaa
