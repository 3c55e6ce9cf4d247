/- Layer 9: the program's Name, Op, Encode. -/
import Derived.Test.YtehlihhnkojjeaaDoorDsE
import Derived.Test.YtehlihhnkojjeaaDoorDu
import Derived.Laws.StructEq
import Derived.Deep.RegionHeld3
namespace Go.Proofs.YtehlihhnkojjeaaDoor
open Go.RowKit
set_option linter.unusedVariables false
set_option maxRecDepth 100000

theorem name_yes (k : Nat) (h1 : 1 ≤ k) (h2 : k ≤ 113) (w : World) :
    Calls Tryd.prog 15 #[.int .i64 k] w fun e w' => e = .returned (.string (nameT k)) ∧ Below w.heap.size w w' := by
  have HF := Lib.hid (dfind_any k h1 h2)
  generalize nameT k = nm at *
  generalize matT k = mt at *
  generalize frmT k = f at *
  clear h1 h2
  go_enter Tryd.func15, Tryd.ntmps15
  go_wp2_with (go_at_call 20; (with_reducible refine (HF.out _).mono ?_); rintro e1 w1 ⟨rfl, hb1⟩)
  go_ret
  exact ⟨rfl, hb1.alloc hb1.size _⟩
theorem name_no (op : Int) (h : ¬ (1 ≤ op ∧ op ≤ 113)) (w : World) :
    Calls Tryd.prog 15 #[.int .i64 op] w fun e w' => e = .returned (.string ⟨#[]⟩) ∧ Below w.heap.size w w' := by
  have HF := Lib.hid (dfind_none op h)
  clear h
  go_enter Tryd.func15, Tryd.ntmps15
  go_wp2_with (go_at_call 20; (with_reducible refine (HF.out _).mono ?_); rintro e1 w1 ⟨rfl, hb1⟩)
  go_ret
  exact ⟨rfl, hb1.alloc hb1.size _⟩
/-- Whether a name is a text. -/
def sameT (k : Nat) (s : ByteArray) : Bool := (nameT k).toList == s.toList
set_option maxHeartbeats 1000000 in
theorem op_yes (k : Nat) (h1 : 1 ≤ k) (h2 : k ≤ 113) (s : ByteArray) (hk : sameT k s = true) (hno : ∀ j, 1 ≤ j → j < k → sameT j s = false) (w : World) :
    Calls Tryd.prog 17 #[.string s] w fun e w' => e = .returned (.int .i64 k) ∧ Below w.heap.size w w' := by
  have HK := Lib.hid hk
  have HNO := Lib.hid hno
  clear hk hno
  go_enter Tryd.func17, Tryd.ntmps17
  go_wp2
  go_loopw [3] (fun i wr => ∃ j : Nat, 1 ≤ j ∧ j ≤ k ∧ i = .int .i64 j ∧ Below w.heap.size w wr) (fun i _ => (k + 1 - intOf i).toNat)
  case atStart => exact ⟨1, by omega, h1, rfl, Below.refl _ _⟩
  case round =>
    obtain ⟨j, hj1, hj2, rfl, hz⟩ := hrel
    have HZ := Lib.hid hz
    clear hz
    have hj3 : (j : Int) ≤ 113 := by omega
    have HF := Lib.hid fun w => name_yes j hj1 (by omega) w
    by_cases e : j < k
    · have hq : ((nameT j).toList == s.toList) = false := HNO.out j hj1 e
      generalize nameT j = nm at *
      clear hj1
      go_wp2_with (go_at_call 15; (with_reducible refine (HF.out _).mono ?_); rintro e1 w1 ⟨rfl, hb1⟩; have HZ1 := Lib.hid (HZ.out.trans (hb1.mono HZ.out.size)); clear hb1)
      go_roundw
      case rel => exact ⟨j + 1, by omega, by omega, by go_num, HZ1.out⟩
      case measure => simp [intOf]; omega
    · obtain rfl : j = k := by omega
      have hq : ((nameT j).toList == s.toList) = true := HK.out
      generalize nameT j = nm at *
      clear hj1
      go_wp2_with (go_at_call 15; (with_reducible refine (HF.out _).mono ?_); rintro e1 w1 ⟨rfl, hb1⟩; have HZ1 := Lib.hid (HZ.out.trans (hb1.mono HZ.out.size)); clear hb1)
      go_ret
      exact ⟨rfl, HZ1.out⟩
set_option maxHeartbeats 1000000 in
theorem op_no (s : ByteArray) (hno : ∀ j, 1 ≤ j → j ≤ 113 → sameT j s = false) (w : World) :
    Calls Tryd.prog 17 #[.string s] w fun e w' => e = .returned (.int .i64 0) ∧ Below w.heap.size w w' := by
  have HNO := Lib.hid hno
  clear hno
  go_enter Tryd.func17, Tryd.ntmps17
  go_wp2
  go_loopw [3] (fun i wr => ∃ j : Nat, 1 ≤ j ∧ j ≤ 114 ∧ i = .int .i64 j ∧ Below w.heap.size w wr) (fun i _ => (115 - intOf i).toNat)
  case atStart => exact ⟨1, by omega, by omega, rfl, Below.refl _ _⟩
  case round =>
    obtain ⟨j, hj1, hj2, rfl, hz⟩ := hrel
    have HZ := Lib.hid hz
    clear hz
    by_cases e : j ≤ 113
    · have hj3 : (j : Int) ≤ 113 := by omega
      have HF := Lib.hid fun w => name_yes j hj1 (by omega) w
      have hq : ((nameT j).toList == s.toList) = false := HNO.out j hj1 e
      generalize nameT j = nm at *
      clear hj1
      go_wp2_with (go_at_call 15; (with_reducible refine (HF.out _).mono ?_); rintro e1 w1 ⟨rfl, hb1⟩; have HZ1 := Lib.hid (HZ.out.trans (hb1.mono HZ.out.size)); clear hb1)
      go_roundw
      case rel => exact ⟨j + 1, by omega, by omega, by go_num, HZ1.out⟩
      case measure => simp [intOf]; omega
    · obtain rfl : j = 114 := by omega
      go_wp2
      go_ret
      exact ⟨rfl, HZ.out⟩

theorem eq_ins (u v : Ins) (w : World) : (Op.equalIn 10000 24 (.agg #[.int .i64 u.op, .int .i64 u.rd, .int .i64 u.a, .int .i64 u.b, .int .i64 u.imm, .int .i64 u.csr, .bool u.aq, .bool u.rl]) (.agg #[.int .i64 v.op, .int .i64 v.rd, .int .i64 v.a, .int .i64 v.b, .int .i64 v.imm, .int .i64 v.csr, .bool v.aq, .bool v.rl])).run Tryd.prog w = .ok (eqI u v) w := by
  simp [go_sem, eqI]
  repeat' split
  all_goals simp_all
theorem neq_ins (u v : Ins) (w : World) : (binOp .neq 24 (.agg #[.int .i64 u.op, .int .i64 u.rd, .int .i64 u.a, .int .i64 u.b, .int .i64 u.imm, .int .i64 u.csr, .bool u.aq, .bool u.rl]) (.agg #[.int .i64 v.op, .int .i64 v.rd, .int .i64 v.a, .int .i64 v.b, .int .i64 v.imm, .int .i64 v.csr, .bool v.aq, .bool v.rl])).run Tryd.prog w = .ok (.bool (!eqI u v)) w := by
  rw [run_neq_struct, eq_ins]; rfl
theorem eql_ins (u v : Ins) (w : World) : (binOp .eql 24 (.agg #[.int .i64 u.op, .int .i64 u.rd, .int .i64 u.a, .int .i64 u.b, .int .i64 u.imm, .int .i64 u.csr, .bool u.aq, .bool u.rl]) (.agg #[.int .i64 v.op, .int .i64 v.rd, .int .i64 v.a, .int .i64 v.b, .int .i64 v.imm, .int .i64 v.csr, .bool v.aq, .bool v.rl])).run Tryd.prog w = .ok (.bool (eqI u v)) w := by
  rw [run_eql_struct, eq_ins]; rfl

set_option maxHeartbeats 1000000 in
theorem encode_none (i : Ins) (h : ¬ (1 ≤ i.op ∧ i.op ≤ 113)) (w : World) :
    Calls Tryd.prog 13 #[.agg #[.int .i64 i.op, .int .i64 i.rd, .int .i64 i.a, .int .i64 i.b, .int .i64 i.imm, .int .i64 i.csr, .bool i.aq, .bool i.rl]] w fun e w' => e = .returned (.tuple #[.int .u32 0, .int .i64 80]) ∧ Below w.heap.size w w' := by
  have HF := Lib.hid (dfind_none i.op h)
  clear h
  go_enter Tryd.func13, Tryd.ntmps13
  go_wp2_with (go_at_call 20; (with_reducible refine (HF.out _).mono ?_); rintro e1 w1 ⟨rfl, hb1⟩; have HB := Lib.hid (((Below.refl _ _).alloc (Nat.le_refl _) _).trans (hb1.mono (by simp))); clear hb1)
  go_ret2
  exact ⟨rfl, HB.out.alloc HB.out.size _⟩

end Go.Proofs.YtehlihhnkojjeaaDoor
