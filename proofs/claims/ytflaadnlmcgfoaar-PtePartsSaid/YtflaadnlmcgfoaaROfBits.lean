/- The contracts of package bits: what each call answers, and that it leaves memory as it was. -/
import Derived.Test.YtflaadnlmcgfoaaRRows
import Derived.Test.YtflaadnlmcgfoaaRBits
import Derived.WalkKit
import Derived.WalkLawsBesides
import Derived.BigQuiet
import Derived.Deep.QuietTactic
import Derived.Lib.Hide
namespace Go.Proofs.YtflaadnlmcgfoaaR
open Go.RowKit
set_option linter.unusedVariables false
set_option maxRecDepth 100000

theorem ret_int {k : IntKind} {a b : Int} (h : a = b) : Ending.returned (.int k a) = .returned (.int k b) := by rw [h]
theorem ret_bool {a b : Bool} (h : a = b) : Ending.returned (.bool a) = .returned (.bool b) := by rw [h]

theorem isPlace_any (i : Int) (w : World) :
    Calls Try.prog 37 #[.int .i64 i] w fun e w' => e = .returned (.bool (decide (0 ≤ i ∧ i < 64))) ∧ w = w' := by
  by_cases h1 : 0 ≤ i
  · by_cases h2 : i < 64
    · go_enter Try.func37, Try.ntmps37
      go_wp2
      go_ret
      exact ⟨ret_bool (by simp [h1, h2]), rfl⟩
    · go_enter Try.func37, Try.ntmps37
      go_wp2
      go_ret
      exact ⟨ret_bool (by simp [h2]), rfl⟩
  · go_enter Try.func37, Try.ntmps37
    go_wp2
    go_ret
    exact ⟨ret_bool (by simp; omega), rfl⟩

theorem mask_any (n : Int) (w : World) :
    Calls Try.prog 31 #[.int .i64 n] w fun e w' => e = .returned (.int .u64 (U (maskB n))) ∧ w = w' := by
  go_enter Try.func31, Try.ntmps31
  go_wp2
  all_goals go_ret
  · exact ⟨ret_int (mask_lo (by assumption)), rfl⟩
  · exact ⟨ret_int (mask_hi (by assumption)), rfl⟩
  · exact ⟨ret_int (mask_mid (by assumption) (by assumption)), rfl⟩

theorem field_any (x lo n : Int) (hx : In64 x) (w : World) :
    Calls Try.prog 27 #[.int .u64 x, .int .i64 lo, .int .i64 n] w fun e w' => e = .returned (.int .u64 (U (fieldB (V x) lo n))) ∧ ∃ k, w' = w.drewN k := by
  by_cases h : 0 ≤ lo ∧ lo < 64
  · have hd : decide (0 ≤ lo ∧ lo < 64) = true := decide_eq_true h
    have hlo := h.1
    have hlo2 := h.2
    go_enter Try.func27, Try.ntmps27
    go_wp2_with (go_at_call 37; refine (isPlace_any _ _).mono ?_; rintro e w' ⟨rfl, rfl⟩)
    go_quiet ((go_at_call 31; exact Calls.quiet_of_same ((mask_any _ _).mono fun e w' h => ⟨h.1, h.2.symm⟩)))
    go_wp2
    go_ret
    exact ⟨ret_int (by rw [bits_and, V_U, shr_eq hx, V_U, field_in h]), nq, rfl⟩
  · have hd : decide (0 ≤ lo ∧ lo < 64) = false := decide_eq_false h
    go_enter Try.func27, Try.ntmps27
    go_wp2_with (go_at_call 37; refine (isPlace_any _ _).mono ?_; rintro e w' ⟨rfl, rfl⟩)
    go_ret
    exact ⟨ret_int (field_out h), 0, rfl⟩

theorem put_any (x lo n y : Int) (hx : In64 x) (w : World) :
    Calls Try.prog 33 #[.int .u64 x, .int .i64 lo, .int .i64 n, .int .u64 y] w fun e w' => e = .returned (.int .u64 (U (putB (V x) lo n (V y)))) ∧ w = w' := by
  by_cases h : 0 ≤ lo ∧ lo < 64
  · have hd : decide (0 ≤ lo ∧ lo < 64) = true := decide_eq_true h
    have hlo := h.1
    have hlo2 := h.2
    go_enter Try.func33, Try.ntmps33
    go_wp2_with (first | (go_at_call 37; refine (isPlace_any _ _).mono ?_; rintro e w' ⟨rfl, rfl⟩) | (go_at_call 31; refine (mask_any _ _).mono ?_; rintro e w' ⟨rfl, rfl⟩))
    go_ret
    exact ⟨ret_int (by rw [bits_andNot, bits_and, bits_or]; simp only [V_U, wrap_shl]; rw [put_in h]), rfl⟩
  · have hd : decide (0 ≤ lo ∧ lo < 64) = false := decide_eq_false h
    go_enter Try.func33, Try.ntmps33
    go_wp2_with (go_at_call 37; refine (isPlace_any _ _).mono ?_; rintro e w' ⟨rfl, rfl⟩)
    go_ret
    exact ⟨ret_int (by rw [put_out h, U_V hx]), rfl⟩

theorem ret_pair {k : IntKind} {x y : Int} {b c : Bool} {p : Int × Bool} (h : p = (y, c)) (hx : x = y) (hb : b = c) : Ending.returned (.tuple #[.int k x, .bool b]) = .returned (.tuple #[.int k p.1, .bool p.2]) := by
  rw [h, hx, hb]

end Go.Proofs.YtflaadnlmcgfoaaR
