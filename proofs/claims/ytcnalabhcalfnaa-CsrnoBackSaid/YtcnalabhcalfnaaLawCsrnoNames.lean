/- Layer 11: the walk of CsrnoNames (written by gen_cnlaws.py). -/
import Derived.Test.YtcnalabhcalfnaaCnL
namespace Go.Proofs.Ytcnalabhcalfnaa
open Go.RowKit
set_option linter.unusedVariables false
set_option maxRecDepth 100000

theorem empty_of {no : Int} (h : knownN no = false) : nameN no = ⟨#[]⟩ := Classical.byContradiction fun k => by
  have := (knownN_iff no).2 k; rw [h] at this; cases this
theorem full_of {no : Int} (h : knownN no = true) : (nameN no).toList.isEmpty = false := by
  cases e : (nameN no).toList with
  | nil => exact absurd (data_inj (by rw [← ByteArray.toList_eq, e])) ((knownN_iff no).1 h)
  | cons _ _ => rfl
theorem full_neq {s : ByteArray} (h : s.toList.isEmpty = false) : ¬ s.toList = [] := fun e => by rw [e] at h; cases h
set_option maxHeartbeats 2000000 in
theorem csrnoNames_walk (no : Int) (s : ByteArray) (w : World) (w0 : In63 no) (w1 : s.size ≤ maxLen) :
    Calls Try.prog 3 #[.int .i64 no, .string s] w fun e w' => e = .returned (.bool true) ∧ Below w.heap.size w w' := by
  have HW := Lib.hid fun w => wakes_any w
  unfold maxLen at w1
  by_cases hs : 1000 < s.size
  · go_enter Try.func3, Try.ntmps3
    go_wp2_with ((with_reducible refine (HW.out _).mono ?_); rintro e w1 ⟨rfl, hb⟩; have HB1 := Lib.hid hb; clear hb)
    go_ret
    exact ⟨rfl, HB1.out⟩
  have H3 := Lib.hid fun w => known_any no w
  have H1 := Lib.hid fun w => name_any no w
  have H2 := Lib.hid fun w => refName_any no w
  have H4 := Lib.hid fun w => number_any s w
  have H5 := Lib.hid fun w => refNumber_any s w
  generalize numS s = k at *
  cases hk : knownN no
  · rw [hk] at H3
    rw [empty_of hk] at H1 H2
    clear hk
    go_enter Try.func3, Try.ntmps3
    go_wp2_with (fail)
    (with_reducible refine (H1.out _).mono ?_); rintro e w1 ⟨rfl, hb⟩; have HB1 := Lib.hid hb; clear hb
    go_wp2_with (fail)
    (with_reducible refine (H2.out _).mono ?_); rintro e w1' ⟨rfl, rfl⟩
    go_wp2_with (fail)
    (with_reducible refine (H3.out _).mono ?_); rintro e w2 ⟨rfl, hb⟩; have HB2 := Lib.hid (HB1.out.trans (hb.mono HB1.out.size)); clear hb
    go_wp2_with (fail)
    (with_reducible refine (H2.out _).mono ?_); rintro e w2' ⟨rfl, rfl⟩
    go_wp2_with (fail)
    (with_reducible refine (H4.out _).mono ?_); rintro e w3 ⟨rfl, hb⟩; have HB3 := Lib.hid (HB2.out.trans (hb.mono HB2.out.size)); clear hb
    go_wp2_with (fail)
    (with_reducible refine (H5.out _).mono ?_); rintro e w3' ⟨rfl, rfl⟩
    go_wp2_with (fail)
    (with_reducible refine (HW.out _).mono ?_); rintro e w4 ⟨rfl, hb⟩; have HB4 := Lib.hid (HB3.out.trans (hb.mono HB3.out.size)); clear hb
    go_wp2
    go_ret
    exact ⟨rfl, HB4.out⟩
  · rw [hk] at H3
    have hq3 := full_of hk
    have hq1 := full_neq hq3
    have hq2 : (!(nameN no).toList.isEmpty) = true := by rw [hq3]; rfl
    clear hk
    generalize nameN no = nm at *
    go_enter Try.func3, Try.ntmps3
    go_wp2_with (fail)
    (with_reducible refine (H1.out _).mono ?_); rintro e w1 ⟨rfl, hb⟩; have HB1 := Lib.hid hb; clear hb
    go_wp2_with (fail)
    (with_reducible refine (H2.out _).mono ?_); rintro e w1' ⟨rfl, rfl⟩
    go_wp2_with (fail)
    (with_reducible refine (H3.out _).mono ?_); rintro e w2 ⟨rfl, hb⟩; have HB2 := Lib.hid (HB1.out.trans (hb.mono HB1.out.size)); clear hb
    go_wp2_with (fail)
    (with_reducible refine (H2.out _).mono ?_); rintro e w2' ⟨rfl, rfl⟩
    go_wp2_with (fail)
    (with_reducible refine (H4.out _).mono ?_); rintro e w3 ⟨rfl, hb⟩; have HB3 := Lib.hid (HB2.out.trans (hb.mono HB2.out.size)); clear hb
    go_wp2_with (fail)
    (with_reducible refine (H5.out _).mono ?_); rintro e w3' ⟨rfl, rfl⟩
    go_wp2_with (fail)
    (with_reducible refine (HW.out _).mono ?_); rintro e w4 ⟨rfl, hb⟩; have HB4 := Lib.hid (HB3.out.trans (hb.mono HB3.out.size)); clear hb
    go_wp2
    go_ret
    exact ⟨rfl, HB4.out⟩

end Go.Proofs.Ytcnalabhcalfnaa
