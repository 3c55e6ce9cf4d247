/- The walks of layer 8's laws. -/
import Derived.Test.YtgpamkebbekhmaaFdF
import Derived.Test.YtgpamkebbekhmaaFdJ
import Derived.Test.YtgpamkebbekhmaaFo
namespace Go.Proofs.Ytgpamkebbekhmaa
open Go.RowKit
set_option linter.unusedVariables false

theorem wakes_any (w : World) : Calls Try.prog 11 #[] w fun e w' => e = .returned (.bool true) ∧ Below w.heap.size w w' := by
  have e1 : (formL 1).number 4293918867 = -1 := by decide +kernel
  have e2 : (formL 3).word (-2) = 4261416832 := by decide +kernel
  have e3 : ((formL 3).number ((formL 3).word (-2)) == -2) = true := by decide +kernel
  have e4 : fldZ 4293918867 31 20 = 4095 := by decide +kernel
  have H1 := Lib.hid fun w => (progNumber 1 (by omega) 4293918867 w)
  rw [e1] at H1
  have H2 := Lib.hid fun w => (progPut_yes 3 (by omega) (-2) e3 w)
  rw [e2] at H2
  have H3 := Lib.hid fun w => (field_any 4293918867 31 20 w)
  rw [e4] at H3
  clear e1 e2 e3 e4
  go_enter Try.func11, Try.ntmps11
  go_wp2_with (first
    | (go_at_call 12; refine (H1.out _).mono ?_; rintro e w1 ⟨rfl, hb1⟩)
    | (go_at_call 14; refine (H2.out _).mono ?_; rintro e w2 ⟨rfl, hb2⟩)
    | (go_at_call 9; refine (H3.out _).mono ?_; rintro e w3 ⟨rfl, rfl⟩))
  go_ret
  exact ⟨rfl, hb1.trans (hb2.mono hb1.size)⟩

theorem fieldsCut_walk (x hi lo : Int) (w0 : (Lit.int .u32 x).wf = true) (w1 : (Lit.int .i64 hi).wf = true) (w2 : (Lit.int .i64 lo).wf = true) (w : World) :
    Calls Try.prog 3 #[.int .u32 x, .int .i64 hi, .int .i64 lo] w fun e w' => e = .returned (.bool true) ∧ Below w.heap.size w w' := by
  have HX := Lib.hid (of_wf32 w0)
  clear w0 w1 w2
  go_enter Try.func3, Try.ntmps3
  go_wp2_with (first
    | (go_at_call 9; refine (field_any _ _ _ _).mono ?_; rintro e w3 ⟨rfl, rfl⟩)
    | (go_at_call 10; refine (refField_any _ _ _ HX.out _).mono ?_; rintro e w3 ⟨rfl, rfl⟩)
    | (go_at_call 11; refine (wakes_any _).mono ?_; rintro e w4 ⟨rfl, hb⟩))
  go_ret
  exact ⟨rfl, hb⟩

/-- A word is its fields put together. -/
theorem whole_or (x : Int) (hx : In32 x) : bits .or .u32 (bits .or .u32 (bits .or .u32 (bits .or .u32 (bits .or .u32 (IntKind.u32.wrap (fldZ x 31 25 * 33554432)) (IntKind.u32.wrap (fldZ x 24 20 * 1048576))) (IntKind.u32.wrap (fldZ x 19 15 * 32768))) (IntKind.u32.wrap (fldZ x 14 12 * 4096))) (IntKind.u32.wrap (fldZ x 11 7 * 128))) (fldZ x 6 0) = x := by
  refine ext32 (or_in _ _) hx fun q hq => ?_
  have p : ∀ (hi : Int) (s : Nat), 0 ≤ hi ∧ (s : Int) ≤ hi ∧ hi ≤ 31 → tb (IntKind.u32.wrap (fldZ x hi s * 2 ^ s)) q = (decide (s ≤ q ∧ (q : Int) ≤ hi) && tb x q) := by
    intro hi s h
    rw [tb_wrap hq, tb_mul, fldZ_tb _ _ _ (by omega)]
    by_cases a : s ≤ q
    · rw [decide_eq_true a, Bool.true_and, show (s : Int).toNat + (q - s) = q by omega]
      congr 1
      rw [decide_eq_decide]; omega
    · rw [decide_eq_false a, decide_eq_false (show ¬ (s ≤ q ∧ (q : Int) ≤ hi) by omega)]; rfl
  rw [tb_or hq, tb_or hq, tb_or hq, tb_or hq, tb_or hq]
  have p1 := p 31 25 (by omega)
  have p2 := p 24 20 (by omega)
  have p3 := p 19 15 (by omega)
  have p4 := p 14 12 (by omega)
  have p5 := p 11 7 (by omega)
  have p6 := fldZ_tb x 6 0 (by omega) q
  rw [show (0 : Int).toNat + q = q by simp] at p6
  have r1 : tb (IntKind.u32.wrap (fldZ x 31 25 * 33554432)) q = _ := p1
  have r2 : tb (IntKind.u32.wrap (fldZ x 24 20 * 1048576)) q = _ := p2
  have r3 : tb (IntKind.u32.wrap (fldZ x 19 15 * 32768)) q = _ := p3
  have r4 : tb (IntKind.u32.wrap (fldZ x 14 12 * 4096)) q = _ := p4
  have r5 : tb (IntKind.u32.wrap (fldZ x 11 7 * 128)) q = _ := p5
  rw [r1, r2, r3, r4, r5, p6]
  cases tb x q
  · simp
  · simp only [Bool.and_true, Bool.or_eq_true, decide_eq_true_eq]
    omega

set_option maxHeartbeats 1000000 in
theorem fieldsWhole_walk (x : Int) (w0 : (Lit.int .u32 x).wf = true) (w : World) :
    Calls Try.prog 8 #[.int .u32 x] w fun e w' => e = .returned (.bool true) ∧ Below w.heap.size w w' := by
  have hx := of_wf32 w0
  have he := beq_iff_eq.2 (whole_or x hx)
  simp only [wrap32] at he
  have hf : fldZ x 31 0 = x := by unfold In32 at hx; rw [fldZ_eq (by decide)]; show x / 1 % 4294967296 = x; omega
  have HF := Lib.hid fun w => field_any x 31 0 w
  rw [hf] at HF
  clear w0 hx hf
  go_enter Try.func8, Try.ntmps8
  go_wp2_with (first
    | (go_at_call 9; first | ((with_reducible refine (HF.out _).mono ?_); rintro e w3 ⟨rfl, rfl⟩) | (refine (field_any _ _ _ _).mono ?_; rintro e w3 ⟨rfl, rfl⟩))
    | (go_at_call 11; refine (wakes_any _).mono ?_; rintro e w4 ⟨rfl, hb⟩))
  go_ret
  exact ⟨rfl, hb⟩

/-! ### of a form, and of none -/
theorem nat_form {f : Int} (h : isForm f) : ∃ k : Nat, f = k ∧ 1 ≤ k ∧ k ≤ 9 := ⟨f.toNat, by unfold isForm at h; omega, by unfold isForm at h; omega⟩

theorem form_cond (k : Nat) (hk : 1 ≤ k ∧ k ≤ 9) : 0 < (formP k).length ∧ (formP k).length ≤ 32 ∧ ∀ i, i < (formP k).length → (formP k).getD i 0 < 32 := by
  have h := formOk k hk
  refine ⟨h.len.1, h.len.2.1, fun i hi => ?_⟩
  by_cases c : 0 ≤ (formP k).getD i 0
  · exact (h.own i hi c).1
  · omega
theorem refNumber_form (k : Nat) (hk : 1 ≤ k ∧ k ≤ 9) (x : Int) (hx : In32 x) (w : World) :
    Calls Try.prog 13 #[.int .i64 k, .int .u32 x] w fun e w' => e = .returned (.tuple #[.int .i64 ((formL k).number x), .bool true]) ∧ Below w.heap.size w w' := by
  have c := form_cond k hk
  have h := formOk k hk
  rw [(formL k).number_numR h.ok (fun s => (h.top s).1), h.pl, form_sg k hk]
  exact refNumber_at k hk (formP k) rfl c.1 c.2.1 c.2.2 x hx w
theorem refPut_form_yes (k : Nat) (hk : 1 ≤ k ∧ k ≤ 9) (n : Int) (hq : ((formL k).number ((formL k).word n) == n) = true) (w : World) :
    Calls Try.prog 15 #[.int .i64 k, .int .i64 n] w fun e w' => e = .returned (.tuple #[.int .u32 ((formL k).word n), .bool true]) ∧ Below w.heap.size w w' := by
  have c := form_cond k hk
  have h := formOk k hk
  rw [h.fits (form_len k hk), form_sg k hk] at hq
  rw [(formL k).word_putD h.ok n (formP k) h.src]
  exact refPut_yes k hk (formP k) rfl c.1 c.2.1 c.2.2 n hq w
theorem refPut_form_no (k : Nat) (hk : 1 ≤ k ∧ k ≤ 9) (n : Int) (hq : ((formL k).number ((formL k).word n) == n) = false) (w : World) :
    Calls Try.prog 15 #[.int .i64 k, .int .i64 n] w fun e w' => e = .returned (.tuple #[.int .u32 0, .bool false]) ∧ Below w.heap.size w w' := by
  have c := form_cond k hk
  have h := formOk k hk
  rw [h.fits (form_len k hk), form_sg k hk] at hq
  exact refPut_no k hk (formP k) rfl c.1 c.2.1 c.2.2 n hq w
theorem refBits_form (k : Nat) (hk : 1 ≤ k ∧ k ≤ 9) (w : World) :
    Calls Try.prog 18 #[.int .i64 k] w fun e w' => e = .returned (.int .u32 ((formL k).word (-1))) ∧ Below w.heap.size w w' := by
  have c := form_cond k hk
  rw [form_mask k hk]
  exact refBits_at k hk (formP k) rfl c.1 c.2.1 c.2.2 w
theorem progFits_is (k : Nat) (hk : 1 ≤ k ∧ k ≤ 9) (n : Int) (q : Bool) (hq : ((formL k).number ((formL k).word n) == n) = q) (w : World) :
    Calls Try.prog 16 #[.int .i64 k, .int .i64 n] w fun e w' => e = .returned (.bool q) ∧ Below w.heap.size w w' :=
  (progFits k hk n w).mono fun e w' ⟨he, hw⟩ => ⟨by rw [he, hq], hw⟩

theorem fieldsNumbers_walk (f x : Int) (w0 : (Lit.int .i64 f).wf = true) (w1 : (Lit.int .u32 x).wf = true) (w : World) :
    Calls Try.prog 4 #[.int .i64 f, .int .u32 x] w fun e w' => e = .returned (.bool true) ∧ Below w.heap.size w w' := by
  have hx := of_wf32 w1
  clear w0 w1
  by_cases hf : isForm f
  · obtain ⟨k, rfl, hk⟩ := nat_form hf
    have H1 := Lib.hid fun w => progNumber k hk x w
    have H2 := Lib.hid fun w => refNumber_form k hk x hx w
    clear hk hx hf
    generalize (formL k).number x = m at *
    go_enter Try.func4, Try.ntmps4
    go_wp2_with (first
      | (go_at_call 12; refine (H1.out _).mono ?_; rintro e w1 ⟨rfl, hb1⟩)
      | (go_at_call 13; refine (H2.out _).mono ?_; rintro e w2 ⟨rfl, hb2⟩)
      | (go_at_call 11; refine (wakes_any _).mono ?_; rintro e w4 ⟨rfl, hb⟩))
    go_ret
    exact ⟨rfl, hb1.trans ((hb2.trans (hb.mono hb2.size)).mono hb1.size)⟩
  · have H1 := Lib.hid fun w => progNumber_no f hf x w
    have H2 := Lib.hid fun w => refNumber_no f hf x w
    clear hf hx
    go_enter Try.func4, Try.ntmps4
    go_wp2_with (first
      | (go_at_call 12; refine (H1.out _).mono ?_; rintro e w1 ⟨rfl, hb1⟩)
      | (go_at_call 13; refine (H2.out _).mono ?_; rintro e w2 ⟨rfl, rfl⟩)
      | (go_at_call 11; refine (wakes_any _).mono ?_; rintro e w4 ⟨rfl, hb⟩))
    go_ret
    exact ⟨rfl, hb1.trans (hb.mono hb1.size)⟩

set_option maxHeartbeats 1000000 in
theorem fieldsPuts_walk (f n : Int) (w0 : (Lit.int .i64 f).wf = true) (w1 : (Lit.int .i64 n).wf = true) (w : World) :
    Calls Try.prog 5 #[.int .i64 f, .int .i64 n] w fun e w' => e = .returned (.bool true) ∧ Below w.heap.size w w' := by
  clear w0 w1
  by_cases hf : isForm f
  · obtain ⟨k, rfl, hk⟩ := nat_form hf
    have H4 := Lib.hid fun w => progBits k hk w
    have H5 := Lib.hid fun w => refBits_form k hk w
    cases hq : ((formL k).number ((formL k).word n) == n)
    · have H1 := Lib.hid fun w => progPut_not k hk n hq w
      have H2 := Lib.hid fun w => refPut_form_no k hk n hq w
      have H3 := Lib.hid fun w => progFits_is k hk n false hq w
      clear hk hf hq
      generalize (formL k).word (-1) = b at *
      go_enter Try.func5, Try.ntmps5
      go_wp2_with (first
        | (go_at_call 14; refine (H1.out _).mono ?_; rintro e w1 ⟨rfl, hb1⟩)
        | (go_at_call 15; refine (H2.out _).mono ?_; rintro e w2 ⟨rfl, hb2⟩)
        | (go_at_call 16; refine (H3.out _).mono ?_; rintro e w3 ⟨rfl, hb3⟩)
        | (go_at_call 17; refine (H4.out _).mono ?_; rintro e w4 ⟨rfl, hb4⟩)
        | (go_at_call 18; refine (H5.out _).mono ?_; rintro e w5 ⟨rfl, hb5⟩)
        | (go_at_call 11; refine (wakes_any _).mono ?_; rintro e w6 ⟨rfl, hb6⟩))
      go_ret
      exact ⟨rfl, hb1.trans ((hb2.trans ((hb3.trans ((hb4.trans ((hb5.trans (hb6.mono hb5.size)).mono hb4.size)).mono hb3.size)).mono hb2.size)).mono hb1.size)⟩
    · have H1 := Lib.hid fun w => progPut_yes k hk n hq w
      have H2 := Lib.hid fun w => refPut_form_yes k hk n hq w
      have H3 := Lib.hid fun w => progFits_is k hk n true hq w
      clear hk hf hq
      generalize (formL k).word (-1) = b at *
      generalize (formL k).word n = v at *
      go_enter Try.func5, Try.ntmps5
      go_wp2_with (first
        | (go_at_call 14; refine (H1.out _).mono ?_; rintro e w1 ⟨rfl, hb1⟩)
        | (go_at_call 15; refine (H2.out _).mono ?_; rintro e w2 ⟨rfl, hb2⟩)
        | (go_at_call 16; refine (H3.out _).mono ?_; rintro e w3 ⟨rfl, hb3⟩)
        | (go_at_call 17; refine (H4.out _).mono ?_; rintro e w4 ⟨rfl, hb4⟩)
        | (go_at_call 18; refine (H5.out _).mono ?_; rintro e w5 ⟨rfl, hb5⟩)
        | (go_at_call 11; refine (wakes_any _).mono ?_; rintro e w6 ⟨rfl, hb6⟩))
      go_ret
      exact ⟨rfl, hb1.trans ((hb2.trans ((hb3.trans ((hb4.trans ((hb5.trans (hb6.mono hb5.size)).mono hb4.size)).mono hb3.size)).mono hb2.size)).mono hb1.size)⟩
  · have H1 := Lib.hid fun w => progPut_no f hf n w
    have H2 := Lib.hid fun w => refPut_non f hf n w
    have H3 := Lib.hid fun w => progFits_no f hf n w
    have H4 := Lib.hid fun w => progBits_no f hf w
    have H5 := Lib.hid fun w => refBits_no f hf w
    clear hf
    go_enter Try.func5, Try.ntmps5
    go_wp2_with (first
      | (go_at_call 14; refine (H1.out _).mono ?_; rintro e w1 ⟨rfl, hb1⟩)
      | (go_at_call 15; refine (H2.out _).mono ?_; rintro e w2 ⟨rfl, rfl⟩)
      | (go_at_call 16; refine (H3.out _).mono ?_; rintro e w3 ⟨rfl, hb3⟩)
      | (go_at_call 17; refine (H4.out _).mono ?_; rintro e w4 ⟨rfl, hb4⟩)
      | (go_at_call 18; refine (H5.out _).mono ?_; rintro e w5 ⟨rfl, rfl⟩)
      | (go_at_call 11; refine (wakes_any _).mono ?_; rintro e w6 ⟨rfl, hb6⟩))
    go_ret
    exact ⟨rfl, hb1.trans ((hb3.trans ((hb4.trans (hb6.mono hb4.size)).mono hb3.size)).mono hb1.size)⟩

set_option maxHeartbeats 2000000 in
theorem fieldsOrder_walk (f a b : Int) (w0 : (Lit.int .i64 f).wf = true) (w1 : (Lit.int .i64 a).wf = true) (w2 : (Lit.int .i64 b).wf = true) (w : World) :
    Calls Try.prog 7 #[.int .i64 f, .int .i64 a, .int .i64 b] w fun e w' => e = .returned (.bool true) ∧ Below w.heap.size w w' := by
  clear w0 w1 w2
  by_cases hf : isForm f
  · obtain ⟨k, rfl, hk⟩ := nat_form hf
    cases hqa : ((formL k).number ((formL k).word a) == a)
    · have H1 := Lib.hid fun w => progFits_is k hk a false hqa w
      clear hk hf hqa
      go_enter Try.func7, Try.ntmps7
      go_wp2_with (first
        | (go_at_call 16; refine (H1.out _).mono ?_; rintro e w1 ⟨rfl, hb1⟩)
        | (go_at_call 11; refine (wakes_any _).mono ?_; rintro e w6 ⟨rfl, hb6⟩))
      go_ret
      exact ⟨rfl, hb1.trans (hb6.mono hb1.size)⟩
    · cases hqb : ((formL k).number ((formL k).word b) == b)
      · have H1 := Lib.hid fun w => progFits_is k hk a true hqa w
        have H2 := Lib.hid fun w => progFits_is k hk b false hqb w
        have HNE : Hid (a ≠ b) := Lib.hid (by intro e; rw [e, hqb] at hqa; cases hqa)
        clear hk hf hqa hqb
        go_enter Try.func7, Try.ntmps7
        go_wp2_with (first
          | (go_at_call 16; first | ((with_reducible refine (H1.out _).mono ?_); rintro e w1 ⟨rfl, hb1⟩) | ((with_reducible refine (H2.out _).mono ?_); rintro e w2 ⟨rfl, hb2⟩))
          | (go_at_call 11; refine (wakes_any _).mono ?_; rintro e w6 ⟨rfl, hb6⟩))
        go_ret
        exact ⟨rfl, hb1.trans ((hb2.trans (hb6.mono hb2.size)).mono hb1.size)⟩
      · have H1 := Lib.hid fun w => progFits_is k hk a true hqa w
        have H2 := Lib.hid fun w => progFits_is k hk b true hqb w
        have H3 := Lib.hid fun w => progPut_yes k hk a hqa w
        have H4 := Lib.hid fun w => progPut_yes k hk b hqb w
        have heq : (((formL k).word a == (formL k).word b) == (a == b)) = true := by
          rw [beq_iff_eq] at hqa hqb ⊢
          rw [Bool.eq_iff_iff, beq_iff_eq, beq_iff_eq]
          constructor
          · intro e; rw [← hqa, ← hqb, e]
          · intro e; rw [e]
        clear hk hf hqa hqb
        generalize (formL k).word a = v at *
        generalize (formL k).word b = u at *
        go_enter Try.func7, Try.ntmps7
        go_wp2_with (first
          | (go_at_call 16; first | ((with_reducible refine (H1.out _).mono ?_); rintro e w1 ⟨rfl, hb1⟩; have HB1 := Lib.hid hb1; clear hb1) | ((with_reducible refine (H2.out _).mono ?_); rintro e w2 ⟨rfl, hb2⟩; have HB2 := Lib.hid (HB1.out.trans (hb2.mono HB1.out.size)); clear hb2))
          | (go_at_call 14; first | ((with_reducible refine (H3.out _).mono ?_); rintro e w3 ⟨rfl, hb3⟩; have HB3 := Lib.hid (HB2.out.trans (hb3.mono HB2.out.size)); clear hb3) | ((with_reducible refine (H4.out _).mono ?_); rintro e w4 ⟨rfl, hb4⟩; have HB4 := Lib.hid (HB3.out.trans (hb4.mono HB3.out.size)); clear hb4))
          | (go_at_call 11; refine (wakes_any _).mono ?_; rintro e w6 ⟨rfl, hb6⟩; have HB6 := Lib.hid (HB4.out.trans (hb6.mono HB4.out.size)); clear hb6))
        go_ret
        exact ⟨rfl, HB6.out⟩
  · have H1 := Lib.hid fun w => progFits_no f hf a w
    clear hf
    go_enter Try.func7, Try.ntmps7
    go_wp2_with (first
      | (go_at_call 16; refine (H1.out _).mono ?_; rintro e w1 ⟨rfl, hb1⟩)
      | (go_at_call 11; refine (wakes_any _).mono ?_; rintro e w6 ⟨rfl, hb6⟩))
    go_ret
    exact ⟨rfl, hb1.trans (hb6.mono hb1.size)⟩

set_option maxHeartbeats 2000000 in
theorem fieldsBack_walk (f n x : Int) (w0 : (Lit.int .i64 f).wf = true) (w1 : (Lit.int .i64 n).wf = true) (w2 : (Lit.int .u32 x).wf = true) (w : World) :
    Calls Try.prog 6 #[.int .i64 f, .int .i64 n, .int .u32 x] w fun e w' => e = .returned (.bool true) ∧ Below w.heap.size w w' := by
  clear w0 w1 w2
  by_cases hf : isForm f
  · obtain ⟨k, rfl, hk⟩ := nat_form hf
    have hL := formL_ok k hk
    have H5 := Lib.hid fun w => progBits k hk w
    have H6 := Lib.hid fun w => progNumber k hk x w
    have hqm : ((formL k).number ((formL k).word ((formL k).number x)) == (formL k).number x) = true := beq_iff_eq.2 ((formL k).fits_number hL x)
    have h7 := fun w => progPut_yes k hk ((formL k).number x) hqm w
    rw [(formL k).word_number hL x] at h7
    have H7 := Lib.hid h7
    clear h7 hqm
    cases hq : ((formL k).number ((formL k).word n) == n)
    · have H1 := Lib.hid fun w => progPut_not k hk n hq w
      have H2 := Lib.hid fun w => progFits_is k hk n false hq w
      have HNE : Hid ((formL k).number x ≠ n) := Lib.hid (by intro e; rw [← e, (formL k).fits_number hL x] at hq; simp at hq)
      clear hk hf hq hL
      generalize (formL k).number x = m at *
      generalize (formL k).word (-1) = b at *
      go_enter Try.func6, Try.ntmps6
      go_wp2_with (first
        | (go_at_call 14; first | ((with_reducible refine (H1.out _).mono ?_); rintro e w1 ⟨rfl, hb1⟩; have HB1 := Lib.hid hb1; clear hb1) | ((with_reducible refine (H7.out _).mono ?_); rintro e w7 ⟨rfl, hb7⟩; have HB7 := Lib.hid (HB6.out.trans (hb7.mono HB6.out.size)); clear hb7))
        | (go_at_call 16; refine (H2.out _).mono ?_; rintro e w2 ⟨rfl, hb2⟩; have HB2 := Lib.hid (HB1.out.trans (hb2.mono HB1.out.size)); clear hb2)
        | (go_at_call 17; refine (H5.out _).mono ?_; rintro e w5 ⟨rfl, hb5⟩; have HB5 := Lib.hid (HB2.out.trans (hb5.mono HB2.out.size)); clear hb5)
        | (go_at_call 12; refine (H6.out _).mono ?_; rintro e w6 ⟨rfl, hb6⟩; have HB6 := Lib.hid (HB5.out.trans (hb6.mono HB5.out.size)); clear hb6)
        | (go_at_call 11; refine (wakes_any _).mono ?_; rintro e w8 ⟨rfl, hb8⟩; have HB8 := Lib.hid (HB7.out.trans (hb8.mono HB7.out.size)); clear hb8))
      go_ret
      exact ⟨rfl, HB8.out⟩
    · have H1 := Lib.hid fun w => progPut_yes k hk n hq w
      have H2 := Lib.hid fun w => progFits_is k hk n true hq w
      have hz : (bits .andNot .u32 ((formL k).word n) ((formL k).word (-1)) != 0) = false := by rw [(formL k).word_mask hL n]; rfl
      have hn : (formL k).number (bits .or .u32 ((formL k).word n) (bits .andNot .u32 x ((formL k).word (-1)))) = n := by rw [(formL k).other_bits hL]; exact beq_iff_eq.1 hq
      have h3 := fun w => progNumber k hk (bits .or .u32 ((formL k).word n) (bits .andNot .u32 x ((formL k).word (-1)))) w
      rw [hn] at h3
      have H3 := Lib.hid h3
      have HV : Hid (bits .or .u32 ((formL k).word n) (bits .andNot .u32 x ((formL k).word (-1))) = x → (formL k).number x = n) := Lib.hid (by intro e; rw [e] at hn; exact hn)
      clear hk hf hq hL hn h3 HV
      generalize (formL k).number x = m at *
      generalize (formL k).word (-1) = b at *
      generalize (formL k).word n = v at *
      go_enter Try.func6, Try.ntmps6
      go_wp2_with (first
        | (go_at_call 14; first | ((with_reducible refine (H1.out _).mono ?_); rintro e w1 ⟨rfl, hb1⟩; have HB1 := Lib.hid hb1; clear hb1) | ((with_reducible refine (H7.out _).mono ?_); rintro e w7 ⟨rfl, hb7⟩; have HB7 := Lib.hid (HB6.out.trans (hb7.mono HB6.out.size)); clear hb7))
        | (go_at_call 16; refine (H2.out _).mono ?_; rintro e w2 ⟨rfl, hb2⟩; have HB2 := Lib.hid (HB1.out.trans (hb2.mono HB1.out.size)); clear hb2)
        | (go_at_call 17; refine (H5.out _).mono ?_; rintro e w5 ⟨rfl, hb5⟩; have HB5 := Lib.hid (HB2.out.trans (hb5.mono HB2.out.size)); clear hb5)
        | (go_at_call 12; first | ((with_reducible refine (H3.out _).mono ?_); rintro e w3 ⟨rfl, hb3⟩; have HB3 := Lib.hid (HB5.out.trans (hb3.mono HB5.out.size)); clear hb3) | ((with_reducible refine (H6.out _).mono ?_); rintro e w6 ⟨rfl, hb6⟩; have HB6 := Lib.hid (HB3.out.trans (hb6.mono HB3.out.size)); clear hb6))
        | (go_at_call 11; refine (wakes_any _).mono ?_; rintro e w8 ⟨rfl, hb8⟩; have HB8 := Lib.hid (HB7.out.trans (hb8.mono HB7.out.size)); clear hb8))
      go_ret
      exact ⟨rfl, HB8.out⟩
  · have H1 := Lib.hid fun w => progPut_no f hf n w
    have H2 := Lib.hid fun w => progFits_no f hf n w
    have H5 := Lib.hid fun w => progBits_no f hf w
    have H6 := Lib.hid fun w => progNumber_no f hf x w
    clear hf
    go_enter Try.func6, Try.ntmps6
    go_wp2_with (first
      | (go_at_call 14; refine (H1.out _).mono ?_; rintro e w1 ⟨rfl, hb1⟩; have HB1 := Lib.hid hb1; clear hb1)
      | (go_at_call 16; refine (H2.out _).mono ?_; rintro e w2 ⟨rfl, hb2⟩; have HB2 := Lib.hid (HB1.out.trans (hb2.mono HB1.out.size)); clear hb2)
      | (go_at_call 17; refine (H5.out _).mono ?_; rintro e w5 ⟨rfl, hb5⟩; have HB5 := Lib.hid (HB2.out.trans (hb5.mono HB2.out.size)); clear hb5)
      | (go_at_call 12; refine (H6.out _).mono ?_; rintro e w6 ⟨rfl, hb6⟩; have HB6 := Lib.hid (HB5.out.trans (hb6.mono HB5.out.size)); clear hb6)
      | (go_at_call 11; refine (wakes_any _).mono ?_; rintro e w8 ⟨rfl, hb8⟩; have HB8 := Lib.hid (HB6.out.trans (hb8.mono HB6.out.size)); clear hb8))
    go_ret
    exact ⟨rfl, HB8.out⟩

end Go.Proofs.Ytgpamkebbekhmaa
