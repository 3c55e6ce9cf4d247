/- Layer 11: the walk of CsrnoBack. -/
import Derived.Test.YtcnalabhcalfnaaLawCsrnoNames
namespace Go.Proofs.Ytcnalabhcalfnaa
open Go.RowKit
set_option linter.unusedVariables false
set_option maxRecDepth 100000

theorem num_name {no : Int} (h : knownN no = true) : numS (nameN no) = no := by
  unfold knownN at h
  rw [decide_eq_true_eq] at h
  rcases ixN_cases no with ⟨a, b⟩ | ⟨a, _⟩
  · unfold numS nameN
    rw [ixS_at a, if_pos a, b]
  · omega
theorem numS_yes {s : ByteArray} (h : ixS s < 56) : nameN (numS s) = s ∧ 0 ≤ numS s ∧ numS s < 4096 := by
  have e : numS s = (noT (ixS s) : Int) := by unfold numS; rw [if_pos h]
  have l := noT_lt _ h
  refine ⟨?_, by omega, by omega⟩
  rw [e]
  unfold nameN
  rw [ixN_at h]
  rcases ixS_cases s with ⟨_, b⟩ | ⟨a, _⟩
  · exact b
  · omega
theorem numS_no {s : ByteArray} (h : ¬ ixS s < 56) : numS s = -1 := by unfold numS; rw [if_neg h]
set_option maxHeartbeats 4000000 in
theorem csrnoBack_walk (no : Int) (s : ByteArray) (w : World) (w0 : In63 no) (w1 : s.size ≤ maxLen) :
    Calls Try.prog 8 #[.int .i64 no, .string s] w fun e w' => e = .returned (.bool true) ∧ Below w.heap.size w w' := by
  have HW := Lib.hid fun w => wakes_any w
  unfold maxLen at w1
  by_cases hs : 1000 < s.size
  · go_enter Try.func8, Try.ntmps8
    go_wp2_with ((with_reducible refine (HW.out _).mono ?_); rintro e w1 ⟨rfl, hb⟩; have HB1 := Lib.hid hb; clear hb)
    go_ret
    exact ⟨rfl, HB1.out⟩
  have H1 := Lib.hid fun w => name_any no w
  have H3 := Lib.hid fun w => known_any no w
  have H4 := Lib.hid fun w => number_any s w
  have hnn : (no != no) = false := by simp
  by_cases hx : ixS s < 56
  · obtain ⟨g1, g2, g3⟩ := numS_yes hx
    have H6 := Lib.hid fun w => name_any (numS s) w
    rw [g1] at H6
    have e1 : (numS s == -1) = false := beq_eq_false_iff_ne.2 (by omega)
    clear hx g1
    generalize numS s = k at *
    cases hk : knownN no
    · rw [hk] at H3
      rw [empty_of hk] at H1
      clear hk
      go_enter Try.func8, Try.ntmps8
      go_wp2_with (fail)
      (with_reducible refine (H1.out _).mono ?_); rintro e w1 ⟨rfl, hb⟩; have HB1 := Lib.hid hb; clear hb
      go_wp2_with (fail)
      (with_reducible refine (H3.out _).mono ?_); rintro e w2 ⟨rfl, hb⟩; have HB2 := Lib.hid (HB1.out.trans (hb.mono HB1.out.size)); clear hb
      go_wp2_with (fail)
      (with_reducible refine (H4.out _).mono ?_); rintro e w3 ⟨rfl, hb⟩; have HB3 := Lib.hid (HB2.out.trans (hb.mono HB2.out.size)); clear hb
      go_wp2_with (fail)
      (with_reducible refine (H6.out _).mono ?_); rintro e w4 ⟨rfl, hb⟩; have HB4 := Lib.hid (HB3.out.trans (hb.mono HB3.out.size)); clear hb
      go_wp2_with (fail)
      (with_reducible refine (HW.out _).mono ?_); rintro e w5 ⟨rfl, hb⟩; have HB5 := Lib.hid (HB4.out.trans (hb.mono HB4.out.size)); clear hb
      go_wp2
      go_ret
      exact ⟨rfl, HB5.out⟩
    · rw [hk] at H3
      have HN := Lib.hid fun w => number_any (nameN no) w
      rw [num_name hk] at HN
      have hq3 := full_of hk
      have hq1 := full_neq hq3
      have hq2 : (!(nameN no).toList.isEmpty) = true := by rw [hq3]; rfl
      clear hk
      generalize nameN no = nm at *
      go_enter Try.func8, Try.ntmps8
      go_wp2_with (fail)
      (with_reducible refine (H1.out _).mono ?_); rintro e w1 ⟨rfl, hb⟩; have HB1 := Lib.hid hb; clear hb
      go_wp2_with (fail)
      (with_reducible refine (H3.out _).mono ?_); rintro e w2 ⟨rfl, hb⟩; have HB2 := Lib.hid (HB1.out.trans (hb.mono HB1.out.size)); clear hb
      go_wp2_with (fail)
      (with_reducible refine (HN.out _).mono ?_); rintro e w2' ⟨rfl, hb⟩; replace HB2 := Lib.hid (HB2.out.trans (hb.mono HB2.out.size)); clear hb
      go_wp2_with (fail)
      (with_reducible refine (H4.out _).mono ?_); rintro e w3 ⟨rfl, hb⟩; have HB3 := Lib.hid (HB2.out.trans (hb.mono HB2.out.size)); clear hb
      go_wp2_with (fail)
      (with_reducible refine (H6.out _).mono ?_); rintro e w4 ⟨rfl, hb⟩; have HB4 := Lib.hid (HB3.out.trans (hb.mono HB3.out.size)); clear hb
      go_wp2_with (fail)
      (with_reducible refine (HW.out _).mono ?_); rintro e w5 ⟨rfl, hb⟩; have HB5 := Lib.hid (HB4.out.trans (hb.mono HB4.out.size)); clear hb
      go_wp2
      go_ret
      exact ⟨rfl, HB5.out⟩
  · rw [numS_no hx] at H4
    clear hx
    cases hk : knownN no
    · rw [hk] at H3
      rw [empty_of hk] at H1
      clear hk
      go_enter Try.func8, Try.ntmps8
      go_wp2_with (fail)
      (with_reducible refine (H1.out _).mono ?_); rintro e w1 ⟨rfl, hb⟩; have HB1 := Lib.hid hb; clear hb
      go_wp2_with (fail)
      (with_reducible refine (H3.out _).mono ?_); rintro e w2 ⟨rfl, hb⟩; have HB2 := Lib.hid (HB1.out.trans (hb.mono HB1.out.size)); clear hb
      go_wp2_with (fail)
      (with_reducible refine (H4.out _).mono ?_); rintro e w3 ⟨rfl, hb⟩; have HB3 := Lib.hid (HB2.out.trans (hb.mono HB2.out.size)); clear hb
      go_wp2_with (fail)
      (with_reducible refine (HW.out _).mono ?_); rintro e w5 ⟨rfl, hb⟩; have HB5 := Lib.hid (HB3.out.trans (hb.mono HB3.out.size)); clear hb
      go_wp2
      go_ret
      exact ⟨rfl, HB5.out⟩
    · rw [hk] at H3
      have HN := Lib.hid fun w => number_any (nameN no) w
      rw [num_name hk] at HN
      have hq3 := full_of hk
      have hq1 := full_neq hq3
      have hq2 : (!(nameN no).toList.isEmpty) = true := by rw [hq3]; rfl
      clear hk
      generalize nameN no = nm at *
      go_enter Try.func8, Try.ntmps8
      go_wp2_with (fail)
      (with_reducible refine (H1.out _).mono ?_); rintro e w1 ⟨rfl, hb⟩; have HB1 := Lib.hid hb; clear hb
      go_wp2_with (fail)
      (with_reducible refine (H3.out _).mono ?_); rintro e w2 ⟨rfl, hb⟩; have HB2 := Lib.hid (HB1.out.trans (hb.mono HB1.out.size)); clear hb
      go_wp2_with (fail)
      (with_reducible refine (HN.out _).mono ?_); rintro e w2' ⟨rfl, hb⟩; replace HB2 := Lib.hid (HB2.out.trans (hb.mono HB2.out.size)); clear hb
      go_wp2_with (fail)
      (with_reducible refine (H4.out _).mono ?_); rintro e w3 ⟨rfl, hb⟩; have HB3 := Lib.hid (HB2.out.trans (hb.mono HB2.out.size)); clear hb
      go_wp2_with (fail)
      (with_reducible refine (HW.out _).mono ?_); rintro e w5 ⟨rfl, hb⟩; have HB5 := Lib.hid (HB3.out.trans (hb.mono HB3.out.size)); clear hb
      go_wp2
      go_ret
      exact ⟨rfl, HB5.out⟩

end Go.Proofs.Ytcnalabhcalfnaa
