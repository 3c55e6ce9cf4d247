/- The walk of BitsDrawn. -/
import Derived.Test.YtbhknchpiagciaaLaw1
import Derived.Test.YtbhknchpiagciaaDrawn
namespace Go.Proofs.Ytbhknchpiagciaa
open Go.RowKit
set_option linter.unusedVariables false

theorem drawn_low (k : Nat) (hk : k ≤ 62) : ∃ P : Int, wrap64 (-2 ^ k) = -P ∧ wrap64 (2 ^ k) = P ∧ (2 : Int) ^ k = P := by
  have h1 : (2 : Int) ^ k ≤ 2 ^ 62 := two_pow_le hk
  have h0 : (0 : Int) < 2 ^ k := Int.pow_pos (by omega)
  refine ⟨2 ^ k, ?_, ?_, rfl⟩
  · unfold wrap64; generalize (2 : Int) ^ k = P at *; omega
  · unfold wrap64; generalize (2 : Int) ^ k = P at *; omega

theorem drawn_sub {a : Int} {k : Nat} (ha : In64 a) (hk : k ≤ 62) : ∃ s M : Int, wrap64 (U (sextB (V a) (1 + (k : Int)))) = s ∧ -(2 ^ k) ≤ s ∧ s < 2 ^ k ∧
    IntKind.u64.wrap (2 ^ (1 + (k : Int)).toNat) = M ∧ 0 < M ∧ ((IntKind.u64.wrap (IntKind.u64.wrap s - a)).tmod M == 0) = true := by
  have hb := sext_bounds (w := V a) (r := k) (by omega)
  have hm := sext_mod (w := V a) (n := 1 + k) (by omega) (by omega)
  have e : (1 + (k : Int)).toNat = 1 + k := by omega
  have hM : IntKind.u64.wrap (2 ^ (1 + (k : Int)).toNat) = 2 ^ (1 + k) := by
    rw [e, IntKind.wrap_u64]
    have h1 : (2 : Int) ^ (1 + k) ≤ 2 ^ 63 := two_pow_le (by omega)
    have h0 : (0 : Int) < 2 ^ (1 + k) := Int.pow_pos (by omega)
    generalize (2 : Int) ^ (1 + k) = P at *; omega
  refine ⟨_, _, rfl, ?_, ?_, hM, Int.pow_pos (by omega), ?_⟩
  · rw [wrap64_V, V_U]; exact hb.1
  · rw [wrap64_V, V_U]; exact hb.2
  · rw [beq_iff_eq, wrap_eq, V_sub, V_wrap, wrap64_V, V_S, V_U, Int.tmod_eq_emod_of_nonneg (U_in _).1]
    exact_mod_cast hm

set_option maxHeartbeats 1000000 in
theorem drawn_any (a b : Int) (ha : In64 a) (w : World) :
    Calls Try.prog 9 #[.int .u64 a, .int .i64 b] w fun e w' => e = .returned (.bool true) ∧ Below w.heap.size w w' := by
  obtain ⟨q, hq, hq0, hq1⟩ := and_low b
  obtain ⟨r, hr, hr0, hr1⟩ : ∃ r, q % 64 = r ∧ 0 ≤ r ∧ r < 64 := ⟨_, rfl, by omega, by omega⟩
  obtain ⟨k, rfl⟩ := Int.eq_ofNat_of_zero_le hr0
  have p1 : canonB (V (U (sextB (V a) (1 + (k : Int))))) (1 + (k : Int)) = true := by rw [V_U, canon_sext (by omega)]
  have p2 : U (sextB (V (U (sextB (V a) (1 + (k : Int))))) (1 + (k : Int))) = U (sextB (V a) (1 + (k : Int))) := by rw [V_U, sext_sext (by omega)]
  have p3 : U (fieldB (V (U (sextB (V a) (1 + (k : Int))))) 0 (1 + (k : Int))) = U (fieldB (V a) 0 (1 + (k : Int))) := by rw [V_U, field_sext (by omega)]
  have p4 : canonB (V a) (1 + (k : Int)) = (U (sextB (V a) (1 + (k : Int))) == a) := by rw [canon_is (by omega), U_V ha]
  by_cases hk : k ≤ 62
  · have hne : (1 + (k : Int) == 64) = false := by simp only [beq_eq_false_iff_ne]; omega
    obtain ⟨s, M, hs1, hs2, hs3, hM1, hM2, hf⟩ := drawn_sub ha hk
    obtain ⟨P, hP1, hP2, hP3⟩ := drawn_low k hk
    rw [hP3] at hs2 hs3
    have HF := Lib.hid hf
    clear hP3 hf
    go_enter Try.func9, Try.ntmps9
    go_wp2_with (first
      | (go_at_call 15; refine (awake_any _).mono ?_; rintro e w1 ⟨rfl, hb1⟩)
      | (go_at_call 16; refine (sext_any _ _ _).mono ?_; rintro e w' ⟨rfl, rfl⟩)
      | (go_at_call 17; refine (canon_any _ _ (by first | exact U_in _ | assumption) _).mono ?_; rintro e w' ⟨rfl, rfl⟩)
      | (go_at_call 13; refine (field_any _ _ _ (by first | exact U_in _ | assumption) _).mono ?_; rintro e w' ⟨rfl, j, rfl⟩))
    go_ret
    exact ⟨ret_bool HF.out, below_drewN hb1 _⟩
  · have hne : (1 + (k : Int) == 64) = true := by rw [beq_iff_eq]; omega
    have p5 : U (sextB (V a) (1 + (k : Int))) = a := by rw [sext_big (by omega), U_V ha]
    have p6 : canonB (V a) (1 + (k : Int)) = true := by rw [p4, p5]; simp
    clear p1 p2 p3 p4
    go_enter Try.func9, Try.ntmps9
    go_wp2_with (first
      | (go_at_call 15; refine (awake_any _).mono ?_; rintro e w1 ⟨rfl, hb1⟩)
      | (go_at_call 16; refine (sext_any _ _ _).mono ?_; rintro e w' ⟨rfl, rfl⟩)
      | (go_at_call 17; refine (canon_any _ _ (by first | exact U_in _ | assumption) _).mono ?_; rintro e w' ⟨rfl, rfl⟩)
      | (go_at_call 13; refine (field_any _ _ _ (by first | exact U_in _ | assumption) _).mono ?_; rintro e w' ⟨rfl, j, rfl⟩))
    go_ret
    exact ⟨rfl, below_drewN hb1 _⟩

theorem bitsDrawn_walk (a0 : Int) (a1 : Int) (w0 : (Lit.int .u64 a0).wf = true) (w1 : (Lit.int .i64 a1).wf = true) (w : World) :
    Calls Try.prog 9 #[.int .u64 a0, .int .i64 a1] w fun e w' => e = .returned (.bool true) ∧ Below w.heap.size w w' :=
  drawn_any a0 a1 (of_wf w0) w

end Go.Proofs.Ytbhknchpiagciaa
