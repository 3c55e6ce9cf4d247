/- The walk of BitsUps: the document's own answer for Up, and the law. -/
import Derived.Test.YtbhknchpiagciaaLaw1
namespace Go.Proofs.Ytbhknchpiagciaa
open Go.RowKit
set_option linter.unusedVariables false

theorem rem_le {a s : Int} (ha : 0 ≤ a) (hs : 0 ≤ s) : a % s ≤ a := by
  have h1 := Int.mul_nonneg hs (Int.ediv_nonneg ha hs)
  have h3 := Int.mul_ediv_add_emod a s
  omega

theorem ref_quo {a s : Int} (ha : In64 a) (hs : In64 s) (h : ¬ s = 0) : ∃ m, IntKind.u64.wrap (a.tdiv s) = m ∧ IntKind.u64.wrap (m * s) = a - a % s ∧ IntKind.u64.wrap (a - a % s + s) = (a - a % s + s) % 18446744073709551616 := by
  unfold In64 at ha hs
  have h1 := Int.ediv_nonneg ha.1 hs.1
  have h2 : a / s ≤ a := Int.ediv_le_self s ha.1
  have h3 := Int.mul_ediv_add_emod a s
  have b1 := Int.emod_nonneg a h
  have b2 := Int.emod_lt_of_pos a (show 0 < s by omega)
  have h4 := Int.mul_nonneg hs.1 h1
  refine ⟨a / s, ?_, ?_, ?_⟩
  · rw [Int.tdiv_eq_ediv_of_nonneg ha.1, IntKind.wrap_u64]; omega
  · rw [Int.mul_comm, IntKind.wrap_u64]; omega
  · rw [IntKind.wrap_u64]

theorem refUp_any (a s : Int) (ha : In64 a) (hs : In64 s) (w : World) :
    Calls Try.prog 27 #[.int .u64 a, .int .u64 s] w fun e w' => e = .returned (.tuple #[.int .u64 (upZ a s).1, .bool (upZ a s).2]) ∧ w = w' := by
  by_cases h : s = 0
  · subst h
    rw [up_zero]
    go_enter Try.func27, Try.ntmps27
    go_wp2
    go_ret2
    exact ⟨rfl, rfl⟩
  have h1 := ha.1
  have h2 := hs.1
  have h2a : 1 ≤ s := by omega
  have h3 : (s == 0) = false := by simpa using h
  have b1 := Int.emod_nonneg a h
  have b2 := Int.emod_lt_of_pos a (show 0 < s by omega)
  have b3 := rem_le h1 h2
  have U1 := ha.2
  have U2 := hs.2
  have RQ := ref_quo ha hs h
  by_cases c : a % s = 0
  · rw [up_even h c]
    rw [c] at RQ
    obtain ⟨m, q1, q2, q3⟩ := RQ
    rw [Int.sub_zero] at q2
    clear q3 U1 U2 ha hs c b3
    go_enter Try.func27, Try.ntmps27
    go_wp2
    go_ret2
    exact ⟨rfl, rfl⟩
  · by_cases f : a + (s - a % s) < 18446744073709551616
    · rw [up_fits h c f]
      obtain ⟨d, hd⟩ : ∃ d, a - a % s = d := ⟨_, rfl⟩
      obtain ⟨n, hn⟩ : ∃ n, a + (s - a % s) = n := ⟨_, rfl⟩
      rw [hd] at RQ
      rw [hn]
      obtain ⟨m, q1, q2, q3⟩ := RQ
      have q4 : IntKind.u64.wrap (d + s) = n := by rw [q3]; omega
      have q5 : (d == a) = false := by simp only [beq_eq_false_iff_ne]; omega
      have q6 : ¬ n < s := by omega
      have q7 : ¬ n < a := by omega
      clear q3 U1 U2 ha hs c f hd hn b1 b2 b3
      go_enter Try.func27, Try.ntmps27
      go_wp2
      go_ret2
      exact ⟨rfl, rfl⟩
    · rw [up_over h c f]
      obtain ⟨d, hd⟩ : ∃ d, a - a % s = d := ⟨_, rfl⟩
      rw [hd] at RQ
      obtain ⟨m, q1, q2, q3⟩ := RQ
      obtain ⟨n, hn⟩ : ∃ n, (d + s) % 18446744073709551616 = n := ⟨_, rfl⟩
      rw [hn] at q3
      have q5 : (d == a) = false := by simp only [beq_eq_false_iff_ne]; omega
      have q6 : n < s := by omega
      clear U1 U2 ha hs c f hd hn b1 b2 b3
      go_enter Try.func27, Try.ntmps27
      go_wp2
      go_ret2
      exact ⟨rfl, rfl⟩

theorem bitsUps_walk (a0 : Int) (a1 : Int) (w0 : (Lit.int .u64 a0).wf = true) (w1 : (Lit.int .u64 a1).wf = true) (w : World) :
    Calls Try.prog 6 #[.int .u64 a0, .int .u64 a1] w fun e w' => e = .returned (.bool true) ∧ Below w.heap.size w w' := by
  have ha := of_wf w0
  have hs := of_wf w1
  go_enter Try.func6, Try.ntmps6
  go_wp2_with (first
      | (go_at_call 15; refine (awake_any _).mono ?_; rintro e w1 ⟨rfl, hb1⟩)
      | (go_at_call 11; refine (up_any _ _ ha hs _).mono ?_; rintro e w' ⟨rfl, rfl⟩)
      | (go_at_call 27; refine (refUp_any _ _ ha hs _).mono ?_; rintro e w' ⟨rfl, rfl⟩))
  go_ret
  exact ⟨rfl, hb1⟩

end Go.Proofs.Ytbhknchpiagciaa
