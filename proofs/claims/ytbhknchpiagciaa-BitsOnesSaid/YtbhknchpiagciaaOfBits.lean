/- The contracts of package bits: what each call answers, and that it leaves memory as it was. -/
import Derived.Test.YtbhknchpiagciaaRows
import Derived.Test.YtbhknchpiagciaaBits
import Derived.WalkKit
import Derived.WalkLawsBesides
import Derived.BigQuiet
import Derived.Deep.QuietTactic
import Derived.Lib.Hide
namespace Go.Proofs.Ytbhknchpiagciaa
open Go.RowKit
set_option linter.unusedVariables false

theorem ret_int {k : IntKind} {a b : Int} (h : a = b) : Ending.returned (.int k a) = .returned (.int k b) := by rw [h]
theorem ret_bool {a b : Bool} (h : a = b) : Ending.returned (.bool a) = .returned (.bool b) := by rw [h]

theorem isPlace_any (i : Int) (w : World) :
    Calls Try.prog 34 #[.int .i64 i] w fun e w' => e = .returned (.bool (decide (0 ≤ i ∧ i < 64))) ∧ w = w' := by
  by_cases h1 : 0 ≤ i
  · by_cases h2 : i < 64
    · go_enter Try.func34, Try.ntmps34
      go_wp2
      go_ret
      exact ⟨ret_bool (by simp [h1, h2]), rfl⟩
    · go_enter Try.func34, Try.ntmps34
      go_wp2
      go_ret
      exact ⟨ret_bool (by simp [h2]), rfl⟩
  · go_enter Try.func34, Try.ntmps34
    go_wp2
    go_ret
    exact ⟨ret_bool (by simp; omega), rfl⟩

theorem mask_any (n : Int) (w : World) :
    Calls Try.prog 12 #[.int .i64 n] w fun e w' => e = .returned (.int .u64 (U (maskB n))) ∧ w = w' := by
  go_enter Try.func12, Try.ntmps12
  go_wp2
  all_goals go_ret
  · exact ⟨ret_int (mask_lo (by assumption)), rfl⟩
  · exact ⟨ret_int (mask_hi (by assumption)), rfl⟩
  · exact ⟨ret_int (mask_mid (by assumption) (by assumption)), rfl⟩

theorem field_any (x lo n : Int) (hx : In64 x) (w : World) :
    Calls Try.prog 13 #[.int .u64 x, .int .i64 lo, .int .i64 n] w fun e w' => e = .returned (.int .u64 (U (fieldB (V x) lo n))) ∧ ∃ k, w' = w.drewN k := by
  by_cases h : 0 ≤ lo ∧ lo < 64
  · have hd : decide (0 ≤ lo ∧ lo < 64) = true := decide_eq_true h
    have hlo := h.1
    have hlo2 := h.2
    go_enter Try.func13, Try.ntmps13
    go_wp2_with (go_at_call 34; refine (isPlace_any _ _).mono ?_; rintro e w' ⟨rfl, rfl⟩)
    go_quiet ((go_at_call 12; exact Calls.quiet_of_same ((mask_any _ _).mono fun e w' h => ⟨h.1, h.2.symm⟩)))
    go_wp2
    go_ret
    exact ⟨ret_int (by rw [bits_and, V_U, shr_eq hx, V_U, field_in h]), nq, rfl⟩
  · have hd : decide (0 ≤ lo ∧ lo < 64) = false := decide_eq_false h
    go_enter Try.func13, Try.ntmps13
    go_wp2_with (go_at_call 34; refine (isPlace_any _ _).mono ?_; rintro e w' ⟨rfl, rfl⟩)
    go_ret
    exact ⟨ret_int (field_out h), 0, rfl⟩

theorem put_any (x lo n y : Int) (hx : In64 x) (w : World) :
    Calls Try.prog 14 #[.int .u64 x, .int .i64 lo, .int .i64 n, .int .u64 y] w fun e w' => e = .returned (.int .u64 (U (putB (V x) lo n (V y)))) ∧ w = w' := by
  by_cases h : 0 ≤ lo ∧ lo < 64
  · have hd : decide (0 ≤ lo ∧ lo < 64) = true := decide_eq_true h
    have hlo := h.1
    have hlo2 := h.2
    go_enter Try.func14, Try.ntmps14
    go_wp2_with (first | (go_at_call 34; refine (isPlace_any _ _).mono ?_; rintro e w' ⟨rfl, rfl⟩) | (go_at_call 12; refine (mask_any _ _).mono ?_; rintro e w' ⟨rfl, rfl⟩))
    go_ret
    exact ⟨ret_int (by rw [bits_andNot, bits_and, bits_or]; simp only [V_U, wrap_shl]; rw [put_in h]), rfl⟩
  · have hd : decide (0 ≤ lo ∧ lo < 64) = false := decide_eq_false h
    go_enter Try.func14, Try.ntmps14
    go_wp2_with (go_at_call 34; refine (isPlace_any _ _).mono ?_; rintro e w' ⟨rfl, rfl⟩)
    go_ret
    exact ⟨ret_int (by rw [put_out h, U_V hx]), rfl⟩

theorem sext_any (x n : Int) (w : World) :
    Calls Try.prog 16 #[.int .u64 x, .int .i64 n] w fun e w' => e = .returned (.int .u64 (U (sextB (V x) n))) ∧ w = w' := by
  go_enter Try.func16, Try.ntmps16
  go_wp2
  all_goals go_ret
  · exact ⟨ret_int (sext_lo (by assumption)), rfl⟩
  · exact ⟨ret_int (sext_hi (by assumption)), rfl⟩
  · exact ⟨ret_int (sext_mid (by assumption) (by assumption)), rfl⟩

theorem canon_no (x n : Int) (h : n < 1) (w : World) :
    Calls Try.prog 17 #[.int .u64 x, .int .i64 n] w fun e w' => e = .returned (.bool (canonB (V x) n)) ∧ w = w' := by
  go_enter Try.func17, Try.ntmps17
  go_wp2_with (go_at_call 16; refine (sext_any _ _ _).mono ?_; rintro e w' ⟨rfl, rfl⟩)
  go_ret
  exact ⟨ret_bool (by unfold canonB; rw [decide_eq_false (show ¬ 1 ≤ n by omega), Bool.false_and]), rfl⟩

theorem canon_yes (x n : Int) (hx : In64 x) (h : 1 ≤ n) (w : World) :
    Calls Try.prog 17 #[.int .u64 x, .int .i64 n] w fun e w' => e = .returned (.bool (canonB (V x) n)) ∧ w = w' := by
  go_enter Try.func17, Try.ntmps17
  go_wp2_with (go_at_call 16; refine (sext_any _ _ _).mono ?_; rintro e w' ⟨rfl, rfl⟩)
  go_ret
  exact ⟨ret_bool (canon_reckon hx h), rfl⟩

theorem canon_any (x n : Int) (hx : In64 x) (w : World) :
    Calls Try.prog 17 #[.int .u64 x, .int .i64 n] w fun e w' => e = .returned (.bool (canonB (V x) n)) ∧ w = w' := by
  by_cases h : n < 1
  · exact canon_no x n h w
  · exact canon_yes x n hx (by omega) w

theorem ret_pair {k : IntKind} {x y : Int} {b c : Bool} {p : Int × Bool} (h : p = (y, c)) (hx : x = y) (hb : b = c) : Ending.returned (.tuple #[.int k x, .bool b]) = .returned (.tuple #[.int k p.1, .bool p.2]) := by
  rw [h, hx, hb]

theorem up_0 (a : Int) (w : World) :
    Calls Try.prog 11 #[.int .u64 a, .int .u64 0] w fun e w' => e = .returned (.tuple #[.int .u64 (upZ a 0).1, .bool (upZ a 0).2]) ∧ w = w' := by
  rw [up_zero]
  go_enter Try.func11, Try.ntmps11
  go_wp2
  go_ret2
  exact ⟨rfl, rfl⟩

theorem up_any (a s : Int) (ha : In64 a) (hs : In64 s) (w : World) :
    Calls Try.prog 11 #[.int .u64 a, .int .u64 s] w fun e w' => e = .returned (.tuple #[.int .u64 (upZ a s).1, .bool (upZ a s).2]) ∧ w = w' := by
  by_cases h : s = 0
  · subst h; exact up_0 a w
  have h1 := ha.1
  have h2 := hs.1
  have h3 : (s == 0) = false := by simpa using h
  have sum := Lib.hid (up_sum ha hs h)
  have b1 := Int.emod_nonneg a h
  have b2 := Int.emod_lt_of_pos a (show 0 < s by omega)
  have HA := Lib.hid ha
  clear ha
  go_enter Try.func11, Try.ntmps11
  go_wp2
  all_goals go_ret2
  · exact ⟨ret_pair (up_even h (eq_of_beq ‹(a % s == 0) = true›)) rfl rfl, rfl⟩
  · have e1 : (a % s == 0) = false := by assumption
    have e2 : IntKind.u64.wrap (a + IntKind.u64.wrap (s - a % s)) < a := by assumption
    rw [sum.out] at e2
    have a1 := HA.out.2
    exact ⟨ret_pair (up_over h (by simpa using e1) (by omega)) rfl rfl, rfl⟩
  · have e1 : (a % s == 0) = false := by assumption
    have e2 : a ≤ IntKind.u64.wrap (a + IntKind.u64.wrap (s - a % s)) := by assumption
    rw [sum.out] at e2
    have a1 := HA.out.2
    have a2 := hs.2
    have e3 : a + (s - a % s) < 18446744073709551616 := by omega
    exact ⟨ret_pair (up_fits h (by simpa using e1) e3) (by rw [sum.out, Int.emod_eq_of_lt (by omega) e3]) rfl, rfl⟩

theorem bit64_any (x i : Int) (h0 : 0 ≤ x) (h1 : x < 2 ^ 64) (w : World) :
    Calls Try.prog 28 #[.int .u64 x, .int .i64 i] w fun e w' => e = .returned (.bool (bitB (V x) i)) ∧ w = w' := by
  have H := Lib.hid h1
  clear h1
  go_enter Try.func28, Try.ntmps28
  go_wp2
  all_goals go_ret
  · exact ⟨ret_bool (by rw [and_one_u64 (Int.ediv_nonneg h0 (Int.le_of_lt (Int.pow_pos (by omega)))), bit_reckon (by omega) h0 H.out (by assumption)]), rfl⟩
  · exact ⟨ret_bool (by rw [bit_neg (by assumption)]), rfl⟩

theorem bit32_any (x i : Int) (h0 : 0 ≤ x) (h1 : x < 2 ^ 32) (w : World) :
    Calls Try.prog 30 #[.int .u32 x, .int .i64 i] w fun e w' => e = .returned (.bool (bitB (V x) i)) ∧ w = w' := by
  have H := Lib.hid h1
  clear h1
  go_enter Try.func30, Try.ntmps30
  go_wp2
  all_goals go_ret
  · exact ⟨ret_bool (by rw [and_one_u32 (Int.ediv_nonneg h0 (Int.le_of_lt (Int.pow_pos (by omega)))), bit_reckon (by omega) h0 H.out (by assumption)]), rfl⟩
  · exact ⟨ret_bool (by rw [bit_neg (by assumption)]), rfl⟩

theorem bit16_any (x i : Int) (h0 : 0 ≤ x) (h1 : x < 2 ^ 16) (w : World) :
    Calls Try.prog 31 #[.int .u16 x, .int .i64 i] w fun e w' => e = .returned (.bool (bitB (V x) i)) ∧ w = w' := by
  have H := Lib.hid h1
  clear h1
  go_enter Try.func31, Try.ntmps31
  go_wp2
  all_goals go_ret
  · exact ⟨ret_bool (by rw [and_one_u16 (Int.ediv_nonneg h0 (Int.le_of_lt (Int.pow_pos (by omega)))), bit_reckon (by omega) h0 H.out (by assumption)]), rfl⟩
  · exact ⟨ret_bool (by rw [bit_neg (by assumption)]), rfl⟩

theorem bit8_any (x i : Int) (h0 : 0 ≤ x) (h1 : x < 2 ^ 8) (w : World) :
    Calls Try.prog 18 #[.int .u8 x, .int .i64 i] w fun e w' => e = .returned (.bool (bitB (V x) i)) ∧ w = w' := by
  have H := Lib.hid h1
  clear h1
  go_enter Try.func18, Try.ntmps18
  go_wp2
  all_goals go_ret
  · exact ⟨ret_bool (by rw [and_one_u8 (Int.ediv_nonneg h0 (Int.le_of_lt (Int.pow_pos (by omega)))), bit_reckon (by omega) h0 H.out (by assumption)]), rfl⟩
  · exact ⟨ret_bool (by rw [bit_neg (by assumption)]), rfl⟩

end Go.Proofs.Ytbhknchpiagciaa
