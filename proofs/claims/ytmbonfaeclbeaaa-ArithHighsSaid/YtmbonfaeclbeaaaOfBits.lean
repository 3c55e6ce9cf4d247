/- The contracts of package bits: what each call answers, and that it leaves memory as it was. -/
import Derived.Test.YtmbonfaeclbeaaaRows
import Derived.Test.YtmbonfaeclbeaaaBits
import Derived.WalkKit
import Derived.WalkLawsBesides
import Derived.BigQuiet
import Derived.Deep.QuietTactic
import Derived.Lib.Hide
namespace Go.Proofs.Ytmbonfaeclbeaaa
open Go.RowKit
set_option linter.unusedVariables false

theorem ret_int {k : IntKind} {a b : Int} (h : a = b) : Ending.returned (.int k a) = .returned (.int k b) := by rw [h]
theorem ret_bool {a b : Bool} (h : a = b) : Ending.returned (.bool a) = .returned (.bool b) := by rw [h]

theorem isPlace_any (i : Int) (w : World) :
    Calls Try.prog 55 #[.int .i64 i] w fun e w' => e = .returned (.bool (decide (0 ≤ i ∧ i < 64))) ∧ w = w' := by
  by_cases h1 : 0 ≤ i
  · by_cases h2 : i < 64
    · go_enter Try.func55, Try.ntmps55
      go_wp2
      go_ret
      exact ⟨ret_bool (by simp [h1, h2]), rfl⟩
    · go_enter Try.func55, Try.ntmps55
      go_wp2
      go_ret
      exact ⟨ret_bool (by simp [h2]), rfl⟩
  · go_enter Try.func55, Try.ntmps55
    go_wp2
    go_ret
    exact ⟨ret_bool (by simp; omega), rfl⟩

theorem mask_any (n : Int) (w : World) :
    Calls Try.prog 56 #[.int .i64 n] w fun e w' => e = .returned (.int .u64 (U (maskB n))) ∧ w = w' := by
  go_enter Try.func56, Try.ntmps56
  go_wp2
  all_goals go_ret
  · exact ⟨ret_int (mask_lo (by assumption)), rfl⟩
  · exact ⟨ret_int (mask_hi (by assumption)), rfl⟩
  · exact ⟨ret_int (mask_mid (by assumption) (by assumption)), rfl⟩

theorem field_any (x lo n : Int) (hx : In64 x) (w : World) :
    Calls Try.prog 51 #[.int .u64 x, .int .i64 lo, .int .i64 n] w fun e w' => e = .returned (.int .u64 (U (fieldB (V x) lo n))) ∧ ∃ k, w' = w.drewN k := by
  by_cases h : 0 ≤ lo ∧ lo < 64
  · have hd : decide (0 ≤ lo ∧ lo < 64) = true := decide_eq_true h
    have hlo := h.1
    have hlo2 := h.2
    go_enter Try.func51, Try.ntmps51
    go_wp2_with (go_at_call 55; refine (isPlace_any _ _).mono ?_; rintro e w' ⟨rfl, rfl⟩)
    go_quiet ((go_at_call 56; exact Calls.quiet_of_same ((mask_any _ _).mono fun e w' h => ⟨h.1, h.2.symm⟩)))
    go_wp2
    go_ret
    exact ⟨ret_int (by rw [bits_and, V_U, shr_eq hx, V_U, field_in h]), nq, rfl⟩
  · have hd : decide (0 ≤ lo ∧ lo < 64) = false := decide_eq_false h
    go_enter Try.func51, Try.ntmps51
    go_wp2_with (go_at_call 55; refine (isPlace_any _ _).mono ?_; rintro e w' ⟨rfl, rfl⟩)
    go_ret
    exact ⟨ret_int (field_out h), 0, rfl⟩

theorem sext_any (x n : Int) (w : World) :
    Calls Try.prog 50 #[.int .u64 x, .int .i64 n] w fun e w' => e = .returned (.int .u64 (U (sextB (V x) n))) ∧ w = w' := by
  go_enter Try.func50, Try.ntmps50
  go_wp2
  all_goals go_ret
  · exact ⟨ret_int (sext_lo (by assumption)), rfl⟩
  · exact ⟨ret_int (sext_hi (by assumption)), rfl⟩
  · exact ⟨ret_int (sext_mid (by assumption) (by assumption)), rfl⟩

theorem ret_pair {k : IntKind} {x y : Int} {b c : Bool} {p : Int × Bool} (h : p = (y, c)) (hx : x = y) (hb : b = c) : Ending.returned (.tuple #[.int k x, .bool b]) = .returned (.tuple #[.int k p.1, .bool p.2]) := by
  rw [h, hx, hb]

theorem bit64_any (x i : Int) (h0 : 0 ≤ x) (h1 : x < 2 ^ 64) (w : World) :
    Calls Try.prog 49 #[.int .u64 x, .int .i64 i] w fun e w' => e = .returned (.bool (bitB (V x) i)) ∧ w = w' := by
  have H := Lib.hid h1
  clear h1
  go_enter Try.func49, Try.ntmps49
  go_wp2
  all_goals go_ret
  · exact ⟨ret_bool (by rw [and_one_u64 (Int.ediv_nonneg h0 (Int.le_of_lt (Int.pow_pos (by omega)))), bit_reckon (by omega) h0 H.out (by assumption)]), rfl⟩
  · exact ⟨ret_bool (by rw [bit_neg (by assumption)]), rfl⟩

end Go.Proofs.Ytmbonfaeclbeaaa
