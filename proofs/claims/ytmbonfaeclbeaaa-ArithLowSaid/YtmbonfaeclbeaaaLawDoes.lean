/- The contract of the document's Do, and the walk of ArithDoes. -/
import Derived.Test.YtmbonfaeclbeaaaArDo2
import Derived.Test.YtmbonfaeclbeaaaLawArith
namespace Go.Proofs.Ytmbonfaeclbeaaa
open Go.RowKit
set_option linter.unusedVariables false

set_option maxHeartbeats 4000000 in
theorem refDo_false (op a b : Int) (ha : In64 a) (hb : In64 b) (w : World) :
    Calls Try.prog 37 #[.int .i64 op, .bool false, .int .u64 a, .int .u64 b] w (DoEnd op false a b w) := by
  have HA := Lib.hid ha
  have HB := Lib.hid hb
  clear ha hb
  have hc : op = 0 ∨ op = 1 ∨ op = 2 ∨ op = 3 ∨ op = 4 ∨ op = 5 ∨ op = 6 ∨ op = 7 ∨ (¬ op = 0 ∧ ¬ op = 1 ∧ ¬ op = 2 ∧ ¬ op = 3 ∧ ¬ op = 4 ∧ ¬ op = 5 ∧ ¬ op = 6 ∧ ¬ op = 7) := by omega
  rcases hc with rfl | rfl | rfl | rfl | rfl | rfl | rfl | rfl | ⟨n0, n1, n2, n3, n4, n5, n6, n7⟩
  · go_enter Try.func37, Try.ntmps37
    go_wp2_with (go_at_call 46; refine (refMul_any _ _ HA.out HB.out _).mono ?_; rintro e w' ⟨rfl, hb1⟩)
    go_ret2
    exact ⟨ret_two rfl rfl, hb1⟩
  · go_enter Try.func37, Try.ntmps37
    go_wp2_with (go_at_call 25; refine (refMulh_any _ _ HA.out HB.out _).mono ?_; rintro e w' ⟨rfl, hb1⟩)
    go_ret2
    exact ⟨ret_two rfl rfl, hb1⟩
  · go_enter Try.func37, Try.ntmps37
    go_wp2_with (go_at_call 26; refine (refMulhsu_any _ _ HA.out HB.out _).mono ?_; rintro e w' ⟨rfl, hb1⟩)
    go_ret2
    exact ⟨ret_two rfl rfl, hb1⟩
  · go_enter Try.func37, Try.ntmps37
    go_wp2_with (go_at_call 27; refine (refMulhu_any _ _ HA.out HB.out _).mono ?_; rintro e w' ⟨rfl, hb1⟩)
    go_ret2
    exact ⟨ret_two rfl rfl, hb1⟩
  · go_enter Try.func37, Try.ntmps37
    go_wp2_with (go_at_call 29; refine (refDiv_any _ _ HA.out HB.out _).mono ?_; rintro e w' ⟨rfl, rfl⟩)
    go_ret2
    exact ⟨ret_two rfl rfl, Below.refl _ _⟩
  · go_enter Try.func37, Try.ntmps37
    go_wp2_with (go_at_call 30; refine (refDivu_any _ _ HA.out HB.out _).mono ?_; rintro e w' ⟨rfl, rfl⟩)
    go_ret2
    exact ⟨ret_two rfl rfl, Below.refl _ _⟩
  · go_enter Try.func37, Try.ntmps37
    go_wp2_with (go_at_call 31; refine (refRem_any _ _ HA.out HB.out _).mono ?_; rintro e w' ⟨rfl, rfl⟩)
    go_ret2
    exact ⟨ret_two rfl rfl, Below.refl _ _⟩
  · go_enter Try.func37, Try.ntmps37
    go_wp2_with (go_at_call 32; refine (refRemu_any _ _ HA.out HB.out _).mono ?_; rintro e w' ⟨rfl, rfl⟩)
    go_ret2
    exact ⟨ret_two rfl rfl, Below.refl _ _⟩
  · have e : doZ op false a b = (0, 1) := by
      unfold doZ doW
      rw [if_neg (by decide), if_neg n0, if_neg n1, if_neg n2, if_neg n3, if_neg n4, if_neg n5, if_neg n6, if_neg n7]
    have E := Lib.hid e
    clear e
    have m0 : (op == 0) = false := by simpa using n0
    have l0 : (0 == op) = false := by rw [beq_eq_false_iff_ne]; omega
    have m1 : (op == 1) = false := by simpa using n1
    have l1 : (1 == op) = false := by rw [beq_eq_false_iff_ne]; omega
    have m2 : (op == 2) = false := by simpa using n2
    have l2 : (2 == op) = false := by rw [beq_eq_false_iff_ne]; omega
    have m3 : (op == 3) = false := by simpa using n3
    have l3 : (3 == op) = false := by rw [beq_eq_false_iff_ne]; omega
    have m4 : (op == 4) = false := by simpa using n4
    have l4 : (4 == op) = false := by rw [beq_eq_false_iff_ne]; omega
    have m5 : (op == 5) = false := by simpa using n5
    have l5 : (5 == op) = false := by rw [beq_eq_false_iff_ne]; omega
    have m6 : (op == 6) = false := by simpa using n6
    have l6 : (6 == op) = false := by rw [beq_eq_false_iff_ne]; omega
    have m7 : (op == 7) = false := by simpa using n7
    have l7 : (7 == op) = false := by rw [beq_eq_false_iff_ne]; omega
    clear n0 n1 n2 n3 n4 n5 n6 n7
    go_enter Try.func37, Try.ntmps37
    go_wp2
    go_ret2
    exact ⟨by rw [E.out]; rfl, Below.refl _ _⟩

set_option maxHeartbeats 4000000 in
theorem refDo_true (op a b : Int) (ha : In64 a) (hb : In64 b) (w : World) :
    Calls Try.prog 37 #[.int .i64 op, .bool true, .int .u64 a, .int .u64 b] w (DoEnd op true a b w) := by
  have HA := Lib.hid ha
  have HB := Lib.hid hb
  clear ha hb
  have hc : op = 0 ∨ op = 4 ∨ op = 5 ∨ op = 6 ∨ op = 7 ∨ (¬ op = 0 ∧ ¬ op = 4 ∧ ¬ op = 5 ∧ ¬ op = 6 ∧ ¬ op = 7) := by omega
  rcases hc with rfl | rfl | rfl | rfl | rfl | ⟨n0, n4, n5, n6, n7⟩
  · go_enter Try.func37, Try.ntmps37
    go_wp2_with (go_at_call 28; refine (refMulw_any _ _ HA.out HB.out _).mono ?_; rintro e w' ⟨rfl, hb1⟩)
    go_ret2
    exact ⟨ret_two rfl rfl, hb1⟩
  · go_enter Try.func37, Try.ntmps37
    go_wp2_with (go_at_call 33; refine (refDivw_any _ _ HA.out HB.out _).mono ?_; rintro e w' ⟨rfl, hb1⟩)
    go_ret2
    exact ⟨ret_two rfl rfl, hb1⟩
  · go_enter Try.func37, Try.ntmps37
    go_wp2_with (go_at_call 34; refine (refDivuw_any _ _ HA.out HB.out _).mono ?_; rintro e w' ⟨rfl, hb1⟩)
    go_ret2
    exact ⟨ret_two rfl rfl, hb1⟩
  · go_enter Try.func37, Try.ntmps37
    go_wp2_with (go_at_call 35; refine (refRemw_any _ _ HA.out HB.out _).mono ?_; rintro e w' ⟨rfl, hb1⟩)
    go_ret2
    exact ⟨ret_two rfl rfl, hb1⟩
  · go_enter Try.func37, Try.ntmps37
    go_wp2_with (go_at_call 36; refine (refRemuw_any _ _ HA.out HB.out _).mono ?_; rintro e w' ⟨rfl, hb1⟩)
    go_ret2
    exact ⟨ret_two rfl rfl, hb1⟩
  · have e : doZ op true a b = (0, 1) := by
      unfold doZ doH
      rw [if_pos rfl, if_neg n0, if_neg n4, if_neg n5, if_neg n6, if_neg n7]
    have E := Lib.hid e
    clear e
    have m0 : (op == 0) = false := by simpa using n0
    have l0 : (0 == op) = false := by rw [beq_eq_false_iff_ne]; omega
    have m4 : (op == 4) = false := by simpa using n4
    have l4 : (4 == op) = false := by rw [beq_eq_false_iff_ne]; omega
    have m5 : (op == 5) = false := by simpa using n5
    have l5 : (5 == op) = false := by rw [beq_eq_false_iff_ne]; omega
    have m6 : (op == 6) = false := by simpa using n6
    have l6 : (6 == op) = false := by rw [beq_eq_false_iff_ne]; omega
    have m7 : (op == 7) = false := by simpa using n7
    have l7 : (7 == op) = false := by rw [beq_eq_false_iff_ne]; omega
    clear n0 n4 n5 n6 n7
    go_enter Try.func37, Try.ntmps37
    go_wp2
    go_ret2
    exact ⟨by rw [E.out]; rfl, Below.refl _ _⟩

theorem refDo_any (op : Int) (word : Bool) (a b : Int) (ha : In64 a) (hb : In64 b) (w : World) :
    Calls Try.prog 37 #[.int .i64 op, .bool word, .int .u64 a, .int .u64 b] w (DoEnd op word a b w) := by
  cases word
  · exact refDo_false op a b ha hb w
  · exact refDo_true op a b ha hb w

theorem doW_err (op a b : Int) : 0 ≤ (doW op a b).2 ∧ (doW op a b).2 ≤ 1 := by
  unfold doW; repeat' split
  all_goals exact ⟨by simp, by simp⟩
theorem doH_err (op a b : Int) : 0 ≤ (doH op a b).2 ∧ (doH op a b).2 ≤ 1 := by
  unfold doH; repeat' split
  all_goals exact ⟨by simp, by simp⟩
theorem doZ_err (op : Int) (word : Bool) (a b : Int) : 0 ≤ (doZ op word a b).2 ∧ (doZ op word a b).2 ≤ 1 := by
  cases word
  · exact doW_err op a b
  · exact doH_err op a b

set_option maxHeartbeats 1000000 in
theorem arithDoes_walk (op : Int) (word : Bool) (a b : Int) (w0 : (Lit.int .i64 op).wf = true) (w2 : (Lit.int .u64 a).wf = true) (w3 : (Lit.int .u64 b).wf = true) (w : World) :
    Calls Try.prog 7 #[.int .i64 op, .bool word, .int .u64 a, .int .u64 b] w fun e w' => e = .returned (.bool true) ∧ Below w.heap.size w w' := by
  have ha := of_wf w2
  have hb := of_wf w3
  obtain ⟨l, u⟩ := doZ_err op word a b
  clear w0 w2 w3
  go_enter Try.func7, Try.ntmps7
  go_wp2_with fail
  refine (do_any _ _ _ _ ha hb _).mono ?_
  rintro e w1 ⟨rfl, HB⟩
  go_wp2_with fail
  refine (refDo_any _ _ _ _ ha hb _).mono ?_
  rintro e w2 ⟨rfl, hb2⟩
  replace HB := HB.trans (hb2.mono HB.size)
  clear hb2
  go_wp2_with fail
  refine (arAwake_any _).mono ?_
  rintro e w3 ⟨rfl, hb3⟩
  replace HB := HB.trans (hb3.mono HB.size)
  clear hb3
  go_wp2
  go_ret
  exact ⟨rfl, HB⟩

end Go.Proofs.Ytmbonfaeclbeaaa
