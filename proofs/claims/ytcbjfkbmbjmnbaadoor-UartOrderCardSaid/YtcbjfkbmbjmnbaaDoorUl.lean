/- Layer 6: the program's uart: Same. -/
import Derived.Test.YtcbjfkbmbjmnbaaDoorUk
namespace Go.Proofs.YtcbjfkbmbjmnbaaDoor
open Go.RowKit
set_option linter.unusedVariables false

theorem belowD (w : World) (n : Nat) : Below w.heap.size w (w.drewN n) := ⟨rfl, rfl, rfl, Nat.le_refl _, fun _ _ => rfl⟩
def regEq (t u : US) : Bool := (t.ier == u.ier) && ((t.fcr == u.fcr) && ((t.lcr == u.lcr) && ((t.mcr == u.mcr) && ((t.scr == u.scr) && ((t.dl == u.dl) && (t.dm == u.dm))))))
/-- Whether two states are the same. -/
def sameU (t u : US) : Bool := decide (t.inn = u.inn) && (decide (t.out = u.out) && (((t.lost == u.lost) && (t.sent == u.sent)) && regEq t u))
def marksA (t : US) : Array Value := #[.bool t.lost, .bool t.sent]
def regsA (t : US) : Array Value := #[.int .u8 0, .int .u8 t.ier, .int .u8 t.fcr, .int .u8 t.lcr, .int .u8 t.mcr, .int .u8 0, .int .u8 0, .int .u8 t.scr, .int .u8 t.dl, .int .u8 t.dm]
theorem eql_marks (t u : US) (w : World) : (binOp .eql 49 (.agg (marksA t)) (.agg (marksA u))).run Tryd.prog w = .ok (.bool ((t.lost == u.lost) && (t.sent == u.sent))) w := by
  rw [run_eql_struct, run_equalIn_struct w 9999 49 _ _ (by kernel_rfl) (by kernel_rfl)]
  simp only [Program.fieldsOf, Tryd.underlying49]
  have e1 : (varr 2 fun i => (marksA t).getD i undef) = marksA t := rfl
  have e2 : (varr 2 fun i => (marksA u).getD i undef) = marksA u := rfl
  rw [← e1, ← e2]
  have a4 : ∀ w, (isAgg 4).run Tryd.prog w = .ok false w := fun _ => by kernel_rfl
  rw [run_fields_cons w (by decide) (run_part_one w (a4 w) (by decide)) (run_part_one w (a4 w) (by decide)) (run_equalIn_bool' w 9998 _ _ _ Tryd.underlying4)
    (run_fields_cons w (by decide) (run_part_one w (a4 w) (by decide)) (run_part_one w (a4 w) (by decide)) (run_equalIn_bool' w 9998 _ _ _ Tryd.underlying4) (run_fields_nil w _ _ _))]
  simp
def regsL (t : US) : List Int := [0, t.ier, t.fcr, t.lcr, t.mcr, 0, 0, t.scr, t.dl, t.dm]
theorem eql_regs (t u : US) (w : World) : (binOp .eql 50 (.agg (regsA t)) (.agg (regsA u))).run Tryd.prog w = .ok (.bool (regEq t u)) w := by
  have e1 : (varr 10 fun i => .int .u8 ((regsL t).getD i 0)) = regsA t := rfl
  have e2 : (varr 10 fun i => .int .u8 ((regsL u).getD i 0)) = regsA u := rfl
  have a5 : ∀ w, (isAgg 5).run Tryd.prog w = .ok false w := fun _ => by kernel_rfl
  have s5 : ∀ w, (sizeOf 5).run Tryd.prog w = .ok 1 w := fun _ => by kernel_rfl
  rw [run_eql_struct, ← e1, ← e2, run_equalIn_arr w Tryd.underlying50 (s5 w) _ _ (fun i => (regsL t).getD i 0 == (regsL u).getD i 0) fun i hi => ⟨.int .u8 ((regsL t).getD i 0), .int .u8 ((regsL u).getD i 0), by rw [Nat.mul_one, run_part_one w (a5 w) hi], by rw [Nat.mul_one, run_part_one w (a5 w) hi], run_equalIn_int w 9998 _ .u8 .u8 _ _ Tryd.underlying5⟩]
  simp [regsL, regEq, List.range, List.range.loop]

end Go.Proofs.YtcbjfkbmbjmnbaaDoor
