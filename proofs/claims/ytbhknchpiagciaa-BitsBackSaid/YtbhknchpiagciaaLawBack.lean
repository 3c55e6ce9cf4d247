/- The walk of BitsBack. -/
import Derived.Test.YtbhknchpiagciaaLaw1
import Derived.Test.YtbhknchpiagciaaBack
namespace Go.Proofs.Ytbhknchpiagciaa
open Go.RowKit
set_option linter.unusedVariables false

set_option maxHeartbeats 1000000 in
theorem back_out (a b lo n more : Int) (ha : In64 a) (hb : In64 b) (h : ¬ (0 ≤ lo ∧ lo < 64 ∧ 1 ≤ n)) (w : World) :
    Calls Try.prog 8 #[.int .u64 a, .int .u64 b, .int .i64 lo, .int .i64 n, .int .i64 more] w fun e w' => e = .returned (.bool true) ∧ Below w.heap.size w w' := by
  have p1 : U (putB (V a) lo n (V b)) = a := by rw [put_none h, U_V ha]
  have p2 : U (fieldB (V a) lo n) = 0 := by rw [field_none h]; rfl
  have p3 : U (putB (V a) lo n (V 0)) = a := by rw [put_none h, U_V ha]
  have hor : lo < 0 ∨ 64 ≤ lo ∨ n < 1 := by omega
  clear h
  rcases hor with h | h | h
  · go_enter Try.func8, Try.ntmps8
    go_wp2_with (first
      | (go_at_call 15; refine (awake_any _).mono ?_; rintro e w1 ⟨rfl, hb1⟩)
      | (go_at_call 14; refine (put_any _ _ _ _ ha _).mono ?_; rintro e w' ⟨rfl, rfl⟩)
      | (go_at_call 13; refine (field_any _ _ _ ha _).mono ?_; rintro e w' ⟨rfl, q, rfl⟩))
    go_ret
    exact ⟨rfl, below_drewN hb1 _⟩
  · have h0 : ¬ lo < 0 := by omega
    go_enter Try.func8, Try.ntmps8
    go_wp2_with (first
      | (go_at_call 15; refine (awake_any _).mono ?_; rintro e w1 ⟨rfl, hb1⟩)
      | (go_at_call 14; refine (put_any _ _ _ _ ha _).mono ?_; rintro e w' ⟨rfl, rfl⟩)
      | (go_at_call 13; refine (field_any _ _ _ ha _).mono ?_; rintro e w' ⟨rfl, q, rfl⟩))
    go_ret
    exact ⟨rfl, below_drewN hb1 _⟩
  · by_cases h0 : lo < 0
    · go_enter Try.func8, Try.ntmps8
      go_wp2_with (first
        | (go_at_call 15; refine (awake_any _).mono ?_; rintro e w1 ⟨rfl, hb1⟩)
        | (go_at_call 14; refine (put_any _ _ _ _ ha _).mono ?_; rintro e w' ⟨rfl, rfl⟩)
        | (go_at_call 13; refine (field_any _ _ _ ha _).mono ?_; rintro e w' ⟨rfl, q, rfl⟩))
      go_ret
      exact ⟨rfl, below_drewN hb1 _⟩
    · by_cases h1 : 64 ≤ lo
      · go_enter Try.func8, Try.ntmps8
        go_wp2_with (first
          | (go_at_call 15; refine (awake_any _).mono ?_; rintro e w1 ⟨rfl, hb1⟩)
          | (go_at_call 14; refine (put_any _ _ _ _ ha _).mono ?_; rintro e w' ⟨rfl, rfl⟩)
          | (go_at_call 13; refine (field_any _ _ _ ha _).mono ?_; rintro e w' ⟨rfl, q, rfl⟩))
        go_ret
        exact ⟨rfl, below_drewN hb1 _⟩
      · go_enter Try.func8, Try.ntmps8
        go_wp2_with (first
          | (go_at_call 15; refine (awake_any _).mono ?_; rintro e w1 ⟨rfl, hb1⟩)
          | (go_at_call 14; refine (put_any _ _ _ _ ha _).mono ?_; rintro e w' ⟨rfl, rfl⟩)
          | (go_at_call 13; refine (field_any _ _ _ ha _).mono ?_; rintro e w' ⟨rfl, q, rfl⟩))
        go_ret
        exact ⟨rfl, below_drewN hb1 _⟩

set_option maxHeartbeats 2000000 in
theorem back_in (a b lo n k more : Int) (ha : In64 a) (hb : In64 b) (h0 : 0 ≤ lo) (h1 : lo < 64) (h2 : 1 ≤ n) (hn : n < 9223372036854775808) (hm : -9223372036854775808 ≤ more) (hk : k = n ∧ n ≤ 64 - lo ∨ k = 64 - lo ∧ 64 - lo < n) (w : World) :
    Calls Try.prog 8 #[.int .u64 a, .int .u64 b, .int .i64 lo, .int .i64 n, .int .i64 more] w fun e w' => e = .returned (.bool true) ∧ Below w.heap.size w w' := by
  have p1 : U (putB (V a) lo n (V (U (fieldB (V a) lo n)))) = a := by rw [V_U, put_field, U_V ha]
  have p2 : U (putB (V (U (putB (V a) lo n (V b)))) lo n (V (U (fieldB (V a) lo n)))) = a := by rw [V_U, V_U, put_put_field, U_V ha]
  have p3 : U (fieldB (V (U (putB (V a) lo n (V b)))) lo n) = bits .and .u64 b (U (maskB k)) := by rw [bits_and, V_U, V_U, field_put ⟨h0, h1⟩ hk]
  have p4 : bits .and .u64 (U (putB (V a) lo n (V b))) (U (maskB lo)) = bits .and .u64 a (U (maskB lo)) := by rw [bits_and, bits_and, V_U, V_U, put_below ⟨h0, h1⟩]
  have p5 : U (putB (V a) lo n (V b)) / 2 ^ (lo + k).toNat = a / 2 ^ (lo + k).toNat := by rw [shr_eq (U_in _), shr_eq ha, V_U, put_above ⟨h0, h1⟩ hk h2]
  have p6 : 1 ≤ more → more < k → IntKind.u64.wrap (U (fieldB (V a) lo more) + IntKind.u64.wrap (U (fieldB (V a) (lo + more) (k - more)) * 2 ^ more.toNat)) = U (fieldB (V a) lo n) := by
    intro m1 m2
    rw [wrap_eq, V_add, V_U, V_wrap, V_mul, V_U, V_pow, BitVec.mul_twoPow_eq_shiftLeft, field_split ⟨h0, h1⟩ hk m1 m2]
  have k1 : 1 ≤ k := by omega
  have k2 : k ≤ 64 - lo := by omega
  have P6 := Lib.hid p6
  clear p6
  rcases hk with ⟨rfl, hk⟩ | ⟨rfl, hk⟩
  · go_enter Try.func8, Try.ntmps8
    go_wp2_with (first
      | (go_at_call 15; refine (awake_any _).mono ?_; rintro e w1 ⟨rfl, hb1⟩)
      | (go_at_call 14; refine (put_any _ _ _ _ (by first | exact U_in _ | assumption) _).mono ?_; rintro e w' ⟨rfl, rfl⟩)
      | (go_at_call 12; refine (mask_any _ _).mono ?_; rintro e w' ⟨rfl, rfl⟩)
      | (go_at_call 13; refine (field_any _ _ _ (by first | exact U_in _ | assumption) _).mono ?_; rintro e w' ⟨rfl, q, rfl⟩))
    all_goals go_ret
    all_goals first
      | exact ⟨rfl, below_drewN hb1 _⟩
      | exact ⟨ret_bool (beq_iff_eq.2 (P6.out (by omega) (by omega))), below_drewN hb1 _⟩
  · go_enter Try.func8, Try.ntmps8
    go_wp2_with (first
      | (go_at_call 15; refine (awake_any _).mono ?_; rintro e w1 ⟨rfl, hb1⟩)
      | (go_at_call 14; refine (put_any _ _ _ _ (by first | exact U_in _ | assumption) _).mono ?_; rintro e w' ⟨rfl, rfl⟩)
      | (go_at_call 12; refine (mask_any _ _).mono ?_; rintro e w' ⟨rfl, rfl⟩)
      | (go_at_call 13; refine (field_any _ _ _ (by first | exact U_in _ | assumption) _).mono ?_; rintro e w' ⟨rfl, q, rfl⟩))
    all_goals go_ret
    all_goals first
      | exact ⟨rfl, below_drewN hb1 _⟩
      | exact ⟨ret_bool (beq_iff_eq.2 (P6.out (by omega) (by omega))), below_drewN hb1 _⟩

theorem bitsBack_walk (a0 : Int) (a1 : Int) (a2 : Int) (a3 : Int) (a4 : Int) (w0 : (Lit.int .u64 a0).wf = true) (w1 : (Lit.int .u64 a1).wf = true) (w2 : (Lit.int .i64 a2).wf = true) (w3 : (Lit.int .i64 a3).wf = true) (w4 : (Lit.int .i64 a4).wf = true) (w : World) :
    Calls Try.prog 8 #[.int .u64 a0, .int .u64 a1, .int .i64 a2, .int .i64 a3, .int .i64 a4] w fun e w' => e = .returned (.bool true) ∧ Below w.heap.size w w' := by
  have h3 := of_wf63 w3
  have h4 := of_wf63 w4
  unfold In63 at h3 h4
  by_cases h : 0 ≤ a2 ∧ a2 < 64 ∧ 1 ≤ a3
  · by_cases hk : a3 ≤ 64 - a2
    · exact back_in a0 a1 a2 a3 a3 a4 (of_wf w0) (of_wf w1) h.1 h.2.1 h.2.2 h3.2 h4.1 (.inl ⟨rfl, hk⟩) w
    · exact back_in a0 a1 a2 a3 (64 - a2) a4 (of_wf w0) (of_wf w1) h.1 h.2.1 h.2.2 h3.2 h4.1 (.inr ⟨rfl, by omega⟩) w
  · exact back_out a0 a1 a2 a3 a4 (of_wf w0) (of_wf w1) h w

end Go.Proofs.Ytbhknchpiagciaa
