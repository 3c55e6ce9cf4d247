/- The contract of arith.Do. -/
import Derived.Test.YtmbonfaeclbeaaaArDo
import Derived.Laws.EntriesVeiled
namespace Go.Proofs.Ytmbonfaeclbeaaa
open Go.RowKit
set_option linter.unusedVariables false

/-- P2.4: what the operation tells, and whether there is one. -/
def doW (op : Int) (a b : Int) : Int × Int :=
  if op = 0 then (wd (a * b), 0) else if op = 1 then (hiZ (sg a) (sg b), 0) else if op = 2 then (hiZ (sg a) b, 0) else if op = 3 then (hiZ a b, 0) else
  if op = 4 then (divZ a b, 0) else if op = 5 then (divuZ a b, 0) else if op = 6 then (remZ a b, 0) else if op = 7 then (remuZ a b, 0) else (0, 1)
def doH (op : Int) (a b : Int) : Int × Int :=
  if op = 0 then (dr (a * b), 0) else if op = 4 then (dr (divZ (dr a) (dr b)), 0) else if op = 5 then (dr (divuZ (lw a) (lw b)), 0) else
  if op = 6 then (dr (remZ (dr a) (dr b)), 0) else if op = 7 then (dr (remuZ (lw a) (lw b)), 0) else (0, 1)
def doZ (op : Int) (word : Bool) (a b : Int) : Int × Int := if word = true then doH op a b else doW op a b

/-- What Do answers. -/
def DoEnd (op : Int) (word : Bool) (a b : Int) (w : World) (e : Ending) (w' : World) : Prop :=
  e = .returned (.tuple #[.int .u64 (doZ op word a b).1, .int .i64 (doZ op word a b).2]) ∧ Below w.heap.size w w'

/-- None of the first k rows is that operation. -/
def NoRow (op : Int) (word : Bool) (k : Nat) : Prop :=
  if word = true then (8 < k → ¬ op = 0) ∧ (9 < k → ¬ op = 4) ∧ (10 < k → ¬ op = 5) ∧ (11 < k → ¬ op = 6) ∧ (12 < k → ¬ op = 7)
  else op < 0 ∨ (k : Int) ≤ op ∨ 8 ≤ op

theorem size_row : (Try.prog.info? 41).map (·.size) = some 3 := by kernel_rfl
theorem index_ops (k : Nat) (hk : k < 13) (w : World) : (Instr.index 42 (.agg opsTbl) (.int .i64 k)).run Try.prog w = .ok (.agg (opsTbl.extract (k * 3) (k * 3 + 3))) w := by
  have hsz : (sizeOf 41).run Try.prog w = .ok 3 w := by
    cases hq : Try.prog.info? 41 with
    | none => have := size_row; rw [hq] at this; cases this
    | some i => have := size_row; rw [hq] at this; simp at this; simp [sizeOf, typeInfo, hq, this]
  have h1 : (0 : Int) ≤ k ∧ (k : Int) < ((13 : Nat) : Int) := by omega
  simp only [Instr.index, Sem.run_bind, asIntOf, Sem.run_pure, Result.andThen_ok, run_underlying Try.underlying42 w]
  rw [if_pos h1]
  simp [Sem.run_bind, hsz, part]

set_option maxHeartbeats 8000000 in
set_option maxRecDepth 100000 in
theorem do_false (op : Int) (a b : Int) (ha : In64 a) (hb : In64 b) (w : World) :
    Calls Try.prog 23 #[.int .i64 op, .bool false, .int .u64 a, .int .u64 b] w (DoEnd op false a b w) := by
  have HA := Lib.hid ha
  have HB := Lib.hid hb
  clear ha hb
  go_enter Try.func23, Try.ntmps23
  go_wp2_with fail
  refine (operations_any _).mono ?_
  rintro e w1 ⟨rfl, hb1⟩
  go_wp2_with fail
  go_loopw [13] (fun i wr => ∃ k : Nat, k ≤ 13 ∧ i = .int .i64 k ∧ NoRow op false k ∧ Below w.heap.size w wr) (fun i _ => (13 - intOf i).toNat)
  case atStart => exact ⟨0, by omega, rfl, by unfold NoRow; simp; omega, hb1⟩
  case round =>
    clear hb1
    obtain ⟨k, hk, rfl, hno, hbr⟩ := hrel
    have hks : k = 0 ∨ k = 1 ∨ k = 2 ∨ k = 3 ∨ k = 4 ∨ k = 5 ∨ k = 6 ∨ k = 7 ∨ k = 8 ∨ k = 9 ∨ k = 10 ∨ k = 11 ∨ k = 12 ∨ k = 13 := by omega
    rcases hks with rfl | rfl | rfl | rfl | rfl | rfl | rfl | rfl | rfl | rfl | rfl | rfl | rfl | rfl
    · have hix : ∀ w, (Instr.index 42 (.agg opsTbl) (.int .i64 0)).run Try.prog w = .ok (.agg #[.int .i64 0, .bool false, .func (.func 41) #[] #[]]) w := fun w => index_ops 0 (by omega) w
      have hbn := fun o => hbr.alloc hbr.size o
      by_cases hit : op = 0
      · subst hit
        go_wp2_with (go_at_call 41; refine (mul_any _ _ _).mono ?_; rintro e w' ⟨rfl, rfl⟩)
        go_ret2
        exact ⟨ret_two rfl rfl, hbn _⟩
      · have hne : (0 == op) = false := by rw [beq_eq_false_iff_ne]; omega
        have HN := Lib.hid hno
        have HH := Lib.hid hit
        clear hno hit
        go_wp2
        refine ⟨⟨1, by omega, rfl, ?_, hbn _⟩, by simp [intOf]⟩
        have h := HN.out
        have hit := HH.out
        unfold NoRow at *; simp at h ⊢ <;> omega
    · have hix : ∀ w, (Instr.index 42 (.agg opsTbl) (.int .i64 1)).run Try.prog w = .ok (.agg #[.int .i64 1, .bool false, .func (.func 11) #[] #[]]) w := fun w => index_ops 1 (by omega) w
      have hbn := fun o => hbr.alloc hbr.size o
      by_cases hit : op = 1
      · subst hit
        go_wp2_with (go_at_call 11; refine (mulh_any _ _ HA.out HB.out _).mono ?_; rintro e w' ⟨rfl, rfl⟩)
        go_ret2
        exact ⟨ret_two rfl rfl, hbn _⟩
      · have hne : (1 == op) = false := by rw [beq_eq_false_iff_ne]; omega
        have HN := Lib.hid hno
        have HH := Lib.hid hit
        clear hno hit
        go_wp2
        refine ⟨⟨2, by omega, rfl, ?_, hbn _⟩, by simp [intOf]⟩
        have h := HN.out
        have hit := HH.out
        unfold NoRow at *; simp at h ⊢ <;> omega
    · have hix : ∀ w, (Instr.index 42 (.agg opsTbl) (.int .i64 2)).run Try.prog w = .ok (.agg #[.int .i64 2, .bool false, .func (.func 12) #[] #[]]) w := fun w => index_ops 2 (by omega) w
      have hbn := fun o => hbr.alloc hbr.size o
      by_cases hit : op = 2
      · subst hit
        go_wp2_with (go_at_call 12; refine (mulhsu_any _ _ HA.out HB.out _).mono ?_; rintro e w' ⟨rfl, rfl⟩)
        go_ret2
        exact ⟨ret_two rfl rfl, hbn _⟩
      · have hne : (2 == op) = false := by rw [beq_eq_false_iff_ne]; omega
        have HN := Lib.hid hno
        have HH := Lib.hid hit
        clear hno hit
        go_wp2
        refine ⟨⟨3, by omega, rfl, ?_, hbn _⟩, by simp [intOf]⟩
        have h := HN.out
        have hit := HH.out
        unfold NoRow at *; simp at h ⊢ <;> omega
    · have hix : ∀ w, (Instr.index 42 (.agg opsTbl) (.int .i64 3)).run Try.prog w = .ok (.agg #[.int .i64 3, .bool false, .func (.func 13) #[] #[]]) w := fun w => index_ops 3 (by omega) w
      have hbn := fun o => hbr.alloc hbr.size o
      by_cases hit : op = 3
      · subst hit
        go_wp2_with (go_at_call 13; refine (mulhu_any _ _ HA.out HB.out _).mono ?_; rintro e w' ⟨rfl, rfl⟩)
        go_ret2
        exact ⟨ret_two rfl rfl, hbn _⟩
      · have hne : (3 == op) = false := by rw [beq_eq_false_iff_ne]; omega
        have HN := Lib.hid hno
        have HH := Lib.hid hit
        clear hno hit
        go_wp2
        refine ⟨⟨4, by omega, rfl, ?_, hbn _⟩, by simp [intOf]⟩
        have h := HN.out
        have hit := HH.out
        unfold NoRow at *; simp at h ⊢ <;> omega
    · have hix : ∀ w, (Instr.index 42 (.agg opsTbl) (.int .i64 4)).run Try.prog w = .ok (.agg #[.int .i64 4, .bool false, .func (.func 15) #[] #[]]) w := fun w => index_ops 4 (by omega) w
      have hbn := fun o => hbr.alloc hbr.size o
      by_cases hit : op = 4
      · subst hit
        go_wp2_with (go_at_call 15; refine (div_any _ _ HA.out HB.out _).mono ?_; rintro e w' ⟨rfl, rfl⟩)
        go_ret2
        exact ⟨ret_two rfl rfl, hbn _⟩
      · have hne : (4 == op) = false := by rw [beq_eq_false_iff_ne]; omega
        have HN := Lib.hid hno
        have HH := Lib.hid hit
        clear hno hit
        go_wp2
        refine ⟨⟨5, by omega, rfl, ?_, hbn _⟩, by simp [intOf]⟩
        have h := HN.out
        have hit := HH.out
        unfold NoRow at *; simp at h ⊢ <;> omega
    · have hix : ∀ w, (Instr.index 42 (.agg opsTbl) (.int .i64 5)).run Try.prog w = .ok (.agg #[.int .i64 5, .bool false, .func (.func 16) #[] #[]]) w := fun w => index_ops 5 (by omega) w
      have hbn := fun o => hbr.alloc hbr.size o
      by_cases hit : op = 5
      · subst hit
        go_wp2_with (go_at_call 16; refine (divu_any _ _ HA.out HB.out _).mono ?_; rintro e w' ⟨rfl, rfl⟩)
        go_ret2
        exact ⟨ret_two rfl rfl, hbn _⟩
      · have hne : (5 == op) = false := by rw [beq_eq_false_iff_ne]; omega
        have HN := Lib.hid hno
        have HH := Lib.hid hit
        clear hno hit
        go_wp2
        refine ⟨⟨6, by omega, rfl, ?_, hbn _⟩, by simp [intOf]⟩
        have h := HN.out
        have hit := HH.out
        unfold NoRow at *; simp at h ⊢ <;> omega
    · have hix : ∀ w, (Instr.index 42 (.agg opsTbl) (.int .i64 6)).run Try.prog w = .ok (.agg #[.int .i64 6, .bool false, .func (.func 14) #[] #[]]) w := fun w => index_ops 6 (by omega) w
      have hbn := fun o => hbr.alloc hbr.size o
      by_cases hit : op = 6
      · subst hit
        go_wp2_with (go_at_call 14; refine (rem_any _ _ HA.out HB.out _).mono ?_; rintro e w' ⟨rfl, rfl⟩)
        go_ret2
        exact ⟨ret_two rfl rfl, hbn _⟩
      · have hne : (6 == op) = false := by rw [beq_eq_false_iff_ne]; omega
        have HN := Lib.hid hno
        have HH := Lib.hid hit
        clear hno hit
        go_wp2
        refine ⟨⟨7, by omega, rfl, ?_, hbn _⟩, by simp [intOf]⟩
        have h := HN.out
        have hit := HH.out
        unfold NoRow at *; simp at h ⊢ <;> omega
    · have hix : ∀ w, (Instr.index 42 (.agg opsTbl) (.int .i64 7)).run Try.prog w = .ok (.agg #[.int .i64 7, .bool false, .func (.func 17) #[] #[]]) w := fun w => index_ops 7 (by omega) w
      have hbn := fun o => hbr.alloc hbr.size o
      by_cases hit : op = 7
      · subst hit
        go_wp2_with (go_at_call 17; refine (remu_any _ _ HA.out HB.out _).mono ?_; rintro e w' ⟨rfl, rfl⟩)
        go_ret2
        exact ⟨ret_two rfl rfl, hbn _⟩
      · have hne : (7 == op) = false := by rw [beq_eq_false_iff_ne]; omega
        have HN := Lib.hid hno
        have HH := Lib.hid hit
        clear hno hit
        go_wp2
        refine ⟨⟨8, by omega, rfl, ?_, hbn _⟩, by simp [intOf]⟩
        have h := HN.out
        have hit := HH.out
        unfold NoRow at *; simp at h ⊢ <;> omega
    · have hix : ∀ w, (Instr.index 42 (.agg opsTbl) (.int .i64 8)).run Try.prog w = .ok (.agg #[.int .i64 0, .bool true, .func (.func 18) #[] #[]]) w := fun w => index_ops 8 (by omega) w
      have hbn := fun o => hbr.alloc hbr.size o
      by_cases hit : op = 0
      · subst hit
        have HN := Lib.hid hno
        clear hno
        go_wp2
        refine ⟨⟨9, by omega, rfl, ?_, hbn _⟩, by simp [intOf]⟩
        have h := HN.out
        unfold NoRow at *; simp at h ⊢
      · have hne : (0 == op) = false := by rw [beq_eq_false_iff_ne]; omega
        have HN := Lib.hid hno
        have HH := Lib.hid hit
        clear hno hit
        go_wp2
        refine ⟨⟨9, by omega, rfl, ?_, hbn _⟩, by simp [intOf]⟩
        have h := HN.out
        have hit := HH.out
        unfold NoRow at *; simp at h ⊢ <;> omega
    · have hix : ∀ w, (Instr.index 42 (.agg opsTbl) (.int .i64 9)).run Try.prog w = .ok (.agg #[.int .i64 4, .bool true, .func (.func 19) #[] #[]]) w := fun w => index_ops 9 (by omega) w
      have hbn := fun o => hbr.alloc hbr.size o
      by_cases hit : op = 4
      · subst hit
        have HN := Lib.hid hno
        clear hno
        go_wp2
        refine ⟨⟨10, by omega, rfl, ?_, hbn _⟩, by simp [intOf]⟩
        have h := HN.out
        unfold NoRow at *; simp at h ⊢
      · have hne : (4 == op) = false := by rw [beq_eq_false_iff_ne]; omega
        have HN := Lib.hid hno
        have HH := Lib.hid hit
        clear hno hit
        go_wp2
        refine ⟨⟨10, by omega, rfl, ?_, hbn _⟩, by simp [intOf]⟩
        have h := HN.out
        have hit := HH.out
        unfold NoRow at *; simp at h ⊢ <;> omega
    · have hix : ∀ w, (Instr.index 42 (.agg opsTbl) (.int .i64 10)).run Try.prog w = .ok (.agg #[.int .i64 5, .bool true, .func (.func 21) #[] #[]]) w := fun w => index_ops 10 (by omega) w
      have hbn := fun o => hbr.alloc hbr.size o
      by_cases hit : op = 5
      · subst hit
        have HN := Lib.hid hno
        clear hno
        go_wp2
        refine ⟨⟨11, by omega, rfl, ?_, hbn _⟩, by simp [intOf]⟩
        have h := HN.out
        unfold NoRow at *; simp at h ⊢
      · have hne : (5 == op) = false := by rw [beq_eq_false_iff_ne]; omega
        have HN := Lib.hid hno
        have HH := Lib.hid hit
        clear hno hit
        go_wp2
        refine ⟨⟨11, by omega, rfl, ?_, hbn _⟩, by simp [intOf]⟩
        have h := HN.out
        have hit := HH.out
        unfold NoRow at *; simp at h ⊢ <;> omega
    · have hix : ∀ w, (Instr.index 42 (.agg opsTbl) (.int .i64 11)).run Try.prog w = .ok (.agg #[.int .i64 6, .bool true, .func (.func 20) #[] #[]]) w := fun w => index_ops 11 (by omega) w
      have hbn := fun o => hbr.alloc hbr.size o
      by_cases hit : op = 6
      · subst hit
        have HN := Lib.hid hno
        clear hno
        go_wp2
        refine ⟨⟨12, by omega, rfl, ?_, hbn _⟩, by simp [intOf]⟩
        have h := HN.out
        unfold NoRow at *; simp at h ⊢
      · have hne : (6 == op) = false := by rw [beq_eq_false_iff_ne]; omega
        have HN := Lib.hid hno
        have HH := Lib.hid hit
        clear hno hit
        go_wp2
        refine ⟨⟨12, by omega, rfl, ?_, hbn _⟩, by simp [intOf]⟩
        have h := HN.out
        have hit := HH.out
        unfold NoRow at *; simp at h ⊢ <;> omega
    · have hix : ∀ w, (Instr.index 42 (.agg opsTbl) (.int .i64 12)).run Try.prog w = .ok (.agg #[.int .i64 7, .bool true, .func (.func 22) #[] #[]]) w := fun w => index_ops 12 (by omega) w
      have hbn := fun o => hbr.alloc hbr.size o
      by_cases hit : op = 7
      · subst hit
        have HN := Lib.hid hno
        clear hno
        go_wp2
        refine ⟨⟨13, by omega, rfl, ?_, hbn _⟩, by simp [intOf]⟩
        have h := HN.out
        unfold NoRow at *; simp at h ⊢
      · have hne : (7 == op) = false := by rw [beq_eq_false_iff_ne]; omega
        have HN := Lib.hid hno
        have HH := Lib.hid hit
        clear hno hit
        go_wp2
        refine ⟨⟨13, by omega, rfl, ?_, hbn _⟩, by simp [intOf]⟩
        have h := HN.out
        have hit := HH.out
        unfold NoRow at *; simp at h ⊢ <;> omega
    · have HN := Lib.hid hno
      clear hno
      go_wp2
      go_ret2
      refine ⟨?_, hbr⟩
      have h := HN.out
      have e : doZ op false a b = (0, 1) := by
        unfold NoRow at h; simp at h
        unfold doZ doW
        rw [if_neg (by decide), if_neg (by omega), if_neg (by omega), if_neg (by omega), if_neg (by omega), if_neg (by omega), if_neg (by omega), if_neg (by omega), if_neg (by omega)]
      rw [e]; rfl

set_option maxHeartbeats 8000000 in
set_option maxRecDepth 100000 in
theorem do_true (op : Int) (a b : Int) (ha : In64 a) (hb : In64 b) (w : World) :
    Calls Try.prog 23 #[.int .i64 op, .bool true, .int .u64 a, .int .u64 b] w (DoEnd op true a b w) := by
  have HA := Lib.hid ha
  have HB := Lib.hid hb
  clear ha hb
  go_enter Try.func23, Try.ntmps23
  go_wp2_with fail
  refine (operations_any _).mono ?_
  rintro e w1 ⟨rfl, hb1⟩
  go_wp2_with fail
  go_loopw [13] (fun i wr => ∃ k : Nat, k ≤ 13 ∧ i = .int .i64 k ∧ NoRow op true k ∧ Below w.heap.size w wr) (fun i _ => (13 - intOf i).toNat)
  case atStart => exact ⟨0, by omega, rfl, by unfold NoRow; simp, hb1⟩
  case round =>
    clear hb1
    obtain ⟨k, hk, rfl, hno, hbr⟩ := hrel
    have hks : k = 0 ∨ k = 1 ∨ k = 2 ∨ k = 3 ∨ k = 4 ∨ k = 5 ∨ k = 6 ∨ k = 7 ∨ k = 8 ∨ k = 9 ∨ k = 10 ∨ k = 11 ∨ k = 12 ∨ k = 13 := by omega
    rcases hks with rfl | rfl | rfl | rfl | rfl | rfl | rfl | rfl | rfl | rfl | rfl | rfl | rfl | rfl
    · have hix : ∀ w, (Instr.index 42 (.agg opsTbl) (.int .i64 0)).run Try.prog w = .ok (.agg #[.int .i64 0, .bool false, .func (.func 41) #[] #[]]) w := fun w => index_ops 0 (by omega) w
      have hbn := fun o => hbr.alloc hbr.size o
      by_cases hit : op = 0
      · subst hit
        have HN := Lib.hid hno
        clear hno
        go_wp2
        refine ⟨⟨1, by omega, rfl, ?_, hbn _⟩, by simp [intOf]⟩
        have h := HN.out
        unfold NoRow at *; simp at h ⊢
      · have hne : (0 == op) = false := by rw [beq_eq_false_iff_ne]; omega
        have HN := Lib.hid hno
        have HH := Lib.hid hit
        clear hno hit
        go_wp2
        refine ⟨⟨1, by omega, rfl, ?_, hbn _⟩, by simp [intOf]⟩
        have h := HN.out
        have hit := HH.out
        unfold NoRow at *; simp at h ⊢ <;> omega
    · have hix : ∀ w, (Instr.index 42 (.agg opsTbl) (.int .i64 1)).run Try.prog w = .ok (.agg #[.int .i64 1, .bool false, .func (.func 11) #[] #[]]) w := fun w => index_ops 1 (by omega) w
      have hbn := fun o => hbr.alloc hbr.size o
      by_cases hit : op = 1
      · subst hit
        have HN := Lib.hid hno
        clear hno
        go_wp2
        refine ⟨⟨2, by omega, rfl, ?_, hbn _⟩, by simp [intOf]⟩
        have h := HN.out
        unfold NoRow at *; simp at h ⊢
      · have hne : (1 == op) = false := by rw [beq_eq_false_iff_ne]; omega
        have HN := Lib.hid hno
        have HH := Lib.hid hit
        clear hno hit
        go_wp2
        refine ⟨⟨2, by omega, rfl, ?_, hbn _⟩, by simp [intOf]⟩
        have h := HN.out
        have hit := HH.out
        unfold NoRow at *; simp at h ⊢ <;> omega
    · have hix : ∀ w, (Instr.index 42 (.agg opsTbl) (.int .i64 2)).run Try.prog w = .ok (.agg #[.int .i64 2, .bool false, .func (.func 12) #[] #[]]) w := fun w => index_ops 2 (by omega) w
      have hbn := fun o => hbr.alloc hbr.size o
      by_cases hit : op = 2
      · subst hit
        have HN := Lib.hid hno
        clear hno
        go_wp2
        refine ⟨⟨3, by omega, rfl, ?_, hbn _⟩, by simp [intOf]⟩
        have h := HN.out
        unfold NoRow at *; simp at h ⊢
      · have hne : (2 == op) = false := by rw [beq_eq_false_iff_ne]; omega
        have HN := Lib.hid hno
        have HH := Lib.hid hit
        clear hno hit
        go_wp2
        refine ⟨⟨3, by omega, rfl, ?_, hbn _⟩, by simp [intOf]⟩
        have h := HN.out
        have hit := HH.out
        unfold NoRow at *; simp at h ⊢ <;> omega
    · have hix : ∀ w, (Instr.index 42 (.agg opsTbl) (.int .i64 3)).run Try.prog w = .ok (.agg #[.int .i64 3, .bool false, .func (.func 13) #[] #[]]) w := fun w => index_ops 3 (by omega) w
      have hbn := fun o => hbr.alloc hbr.size o
      by_cases hit : op = 3
      · subst hit
        have HN := Lib.hid hno
        clear hno
        go_wp2
        refine ⟨⟨4, by omega, rfl, ?_, hbn _⟩, by simp [intOf]⟩
        have h := HN.out
        unfold NoRow at *; simp at h ⊢
      · have hne : (3 == op) = false := by rw [beq_eq_false_iff_ne]; omega
        have HN := Lib.hid hno
        have HH := Lib.hid hit
        clear hno hit
        go_wp2
        refine ⟨⟨4, by omega, rfl, ?_, hbn _⟩, by simp [intOf]⟩
        have h := HN.out
        have hit := HH.out
        unfold NoRow at *; simp at h ⊢ <;> omega
    · have hix : ∀ w, (Instr.index 42 (.agg opsTbl) (.int .i64 4)).run Try.prog w = .ok (.agg #[.int .i64 4, .bool false, .func (.func 15) #[] #[]]) w := fun w => index_ops 4 (by omega) w
      have hbn := fun o => hbr.alloc hbr.size o
      by_cases hit : op = 4
      · subst hit
        have HN := Lib.hid hno
        clear hno
        go_wp2
        refine ⟨⟨5, by omega, rfl, ?_, hbn _⟩, by simp [intOf]⟩
        have h := HN.out
        unfold NoRow at *; simp at h ⊢
      · have hne : (4 == op) = false := by rw [beq_eq_false_iff_ne]; omega
        have HN := Lib.hid hno
        have HH := Lib.hid hit
        clear hno hit
        go_wp2
        refine ⟨⟨5, by omega, rfl, ?_, hbn _⟩, by simp [intOf]⟩
        have h := HN.out
        have hit := HH.out
        unfold NoRow at *; simp at h ⊢ <;> omega
    · have hix : ∀ w, (Instr.index 42 (.agg opsTbl) (.int .i64 5)).run Try.prog w = .ok (.agg #[.int .i64 5, .bool false, .func (.func 16) #[] #[]]) w := fun w => index_ops 5 (by omega) w
      have hbn := fun o => hbr.alloc hbr.size o
      by_cases hit : op = 5
      · subst hit
        have HN := Lib.hid hno
        clear hno
        go_wp2
        refine ⟨⟨6, by omega, rfl, ?_, hbn _⟩, by simp [intOf]⟩
        have h := HN.out
        unfold NoRow at *; simp at h ⊢
      · have hne : (5 == op) = false := by rw [beq_eq_false_iff_ne]; omega
        have HN := Lib.hid hno
        have HH := Lib.hid hit
        clear hno hit
        go_wp2
        refine ⟨⟨6, by omega, rfl, ?_, hbn _⟩, by simp [intOf]⟩
        have h := HN.out
        have hit := HH.out
        unfold NoRow at *; simp at h ⊢ <;> omega
    · have hix : ∀ w, (Instr.index 42 (.agg opsTbl) (.int .i64 6)).run Try.prog w = .ok (.agg #[.int .i64 6, .bool false, .func (.func 14) #[] #[]]) w := fun w => index_ops 6 (by omega) w
      have hbn := fun o => hbr.alloc hbr.size o
      by_cases hit : op = 6
      · subst hit
        have HN := Lib.hid hno
        clear hno
        go_wp2
        refine ⟨⟨7, by omega, rfl, ?_, hbn _⟩, by simp [intOf]⟩
        have h := HN.out
        unfold NoRow at *; simp at h ⊢
      · have hne : (6 == op) = false := by rw [beq_eq_false_iff_ne]; omega
        have HN := Lib.hid hno
        have HH := Lib.hid hit
        clear hno hit
        go_wp2
        refine ⟨⟨7, by omega, rfl, ?_, hbn _⟩, by simp [intOf]⟩
        have h := HN.out
        have hit := HH.out
        unfold NoRow at *; simp at h ⊢ <;> omega
    · have hix : ∀ w, (Instr.index 42 (.agg opsTbl) (.int .i64 7)).run Try.prog w = .ok (.agg #[.int .i64 7, .bool false, .func (.func 17) #[] #[]]) w := fun w => index_ops 7 (by omega) w
      have hbn := fun o => hbr.alloc hbr.size o
      by_cases hit : op = 7
      · subst hit
        have HN := Lib.hid hno
        clear hno
        go_wp2
        refine ⟨⟨8, by omega, rfl, ?_, hbn _⟩, by simp [intOf]⟩
        have h := HN.out
        unfold NoRow at *; simp at h ⊢
      · have hne : (7 == op) = false := by rw [beq_eq_false_iff_ne]; omega
        have HN := Lib.hid hno
        have HH := Lib.hid hit
        clear hno hit
        go_wp2
        refine ⟨⟨8, by omega, rfl, ?_, hbn _⟩, by simp [intOf]⟩
        have h := HN.out
        have hit := HH.out
        unfold NoRow at *; simp at h ⊢ <;> omega
    · have hix : ∀ w, (Instr.index 42 (.agg opsTbl) (.int .i64 8)).run Try.prog w = .ok (.agg #[.int .i64 0, .bool true, .func (.func 18) #[] #[]]) w := fun w => index_ops 8 (by omega) w
      have hbn := fun o => hbr.alloc hbr.size o
      by_cases hit : op = 0
      · subst hit
        go_wp2_with (go_at_call 18; refine (mulw_any _ _ _).mono ?_; rintro e w' ⟨rfl, rfl⟩)
        go_ret2
        exact ⟨ret_two rfl rfl, hbn _⟩
      · have hne : (0 == op) = false := by rw [beq_eq_false_iff_ne]; omega
        have HN := Lib.hid hno
        have HH := Lib.hid hit
        clear hno hit
        go_wp2
        refine ⟨⟨9, by omega, rfl, ?_, hbn _⟩, by simp [intOf]⟩
        have h := HN.out
        have hit := HH.out
        unfold NoRow at *; simp at h ⊢ <;> omega
    · have hix : ∀ w, (Instr.index 42 (.agg opsTbl) (.int .i64 9)).run Try.prog w = .ok (.agg #[.int .i64 4, .bool true, .func (.func 19) #[] #[]]) w := fun w => index_ops 9 (by omega) w
      have hbn := fun o => hbr.alloc hbr.size o
      by_cases hit : op = 4
      · subst hit
        go_wp2_with (go_at_call 19; refine (divw_any _ _ HA.out HB.out _).mono ?_; rintro e w' ⟨rfl, rfl⟩)
        go_ret2
        exact ⟨ret_two rfl rfl, hbn _⟩
      · have hne : (4 == op) = false := by rw [beq_eq_false_iff_ne]; omega
        have HN := Lib.hid hno
        have HH := Lib.hid hit
        clear hno hit
        go_wp2
        refine ⟨⟨10, by omega, rfl, ?_, hbn _⟩, by simp [intOf]⟩
        have h := HN.out
        have hit := HH.out
        unfold NoRow at *; simp at h ⊢ <;> omega
    · have hix : ∀ w, (Instr.index 42 (.agg opsTbl) (.int .i64 10)).run Try.prog w = .ok (.agg #[.int .i64 5, .bool true, .func (.func 21) #[] #[]]) w := fun w => index_ops 10 (by omega) w
      have hbn := fun o => hbr.alloc hbr.size o
      by_cases hit : op = 5
      · subst hit
        go_wp2_with (go_at_call 21; refine (divuw_any _ _ HA.out HB.out _).mono ?_; rintro e w' ⟨rfl, q, rfl⟩)
        go_ret2
        exact ⟨ret_two rfl rfl, below_drewN (hbn _) q⟩
      · have hne : (5 == op) = false := by rw [beq_eq_false_iff_ne]; omega
        have HN := Lib.hid hno
        have HH := Lib.hid hit
        clear hno hit
        go_wp2
        refine ⟨⟨11, by omega, rfl, ?_, hbn _⟩, by simp [intOf]⟩
        have h := HN.out
        have hit := HH.out
        unfold NoRow at *; simp at h ⊢ <;> omega
    · have hix : ∀ w, (Instr.index 42 (.agg opsTbl) (.int .i64 11)).run Try.prog w = .ok (.agg #[.int .i64 6, .bool true, .func (.func 20) #[] #[]]) w := fun w => index_ops 11 (by omega) w
      have hbn := fun o => hbr.alloc hbr.size o
      by_cases hit : op = 6
      · subst hit
        go_wp2_with (go_at_call 20; refine (remw_any _ _ HA.out HB.out _).mono ?_; rintro e w' ⟨rfl, rfl⟩)
        go_ret2
        exact ⟨ret_two rfl rfl, hbn _⟩
      · have hne : (6 == op) = false := by rw [beq_eq_false_iff_ne]; omega
        have HN := Lib.hid hno
        have HH := Lib.hid hit
        clear hno hit
        go_wp2
        refine ⟨⟨12, by omega, rfl, ?_, hbn _⟩, by simp [intOf]⟩
        have h := HN.out
        have hit := HH.out
        unfold NoRow at *; simp at h ⊢ <;> omega
    · have hix : ∀ w, (Instr.index 42 (.agg opsTbl) (.int .i64 12)).run Try.prog w = .ok (.agg #[.int .i64 7, .bool true, .func (.func 22) #[] #[]]) w := fun w => index_ops 12 (by omega) w
      have hbn := fun o => hbr.alloc hbr.size o
      by_cases hit : op = 7
      · subst hit
        go_wp2_with (go_at_call 22; refine (remuw_any _ _ HA.out HB.out _).mono ?_; rintro e w' ⟨rfl, q, rfl⟩)
        go_ret2
        exact ⟨ret_two rfl rfl, below_drewN (hbn _) q⟩
      · have hne : (7 == op) = false := by rw [beq_eq_false_iff_ne]; omega
        have HN := Lib.hid hno
        have HH := Lib.hid hit
        clear hno hit
        go_wp2
        refine ⟨⟨13, by omega, rfl, ?_, hbn _⟩, by simp [intOf]⟩
        have h := HN.out
        have hit := HH.out
        unfold NoRow at *; simp at h ⊢ <;> omega
    · have HN := Lib.hid hno
      clear hno
      go_wp2
      go_ret2
      refine ⟨?_, hbr⟩
      have h := HN.out
      have e : doZ op true a b = (0, 1) := by
        unfold NoRow at h; simp at h
        unfold doZ doH
        rw [if_pos rfl, if_neg (by omega), if_neg (by omega), if_neg (by omega), if_neg (by omega), if_neg (by omega)]
      rw [e]; rfl

theorem do_any (op : Int) (word : Bool) (a b : Int) (ha : In64 a) (hb : In64 b) (w : World) :
    Calls Try.prog 23 #[.int .i64 op, .bool word, .int .u64 a, .int .u64 b] w (DoEnd op word a b w) := by
  cases word
  · exact do_false op a b ha hb w
  · exact do_true op a b ha hb w

end Go.Proofs.Ytmbonfaeclbeaaa
