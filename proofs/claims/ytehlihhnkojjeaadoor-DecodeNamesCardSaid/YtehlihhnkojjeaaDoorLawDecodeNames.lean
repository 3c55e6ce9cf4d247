/- Layer 9: the walk of DecodeNames. -/
import Derived.Test.YtehlihhnkojjeaaDoorDv
import Derived.Test.YtehlihhnkojjeaaDoorDtE
namespace Go.Proofs.YtehlihhnkojjeaaDoor
open Go.RowKit
set_option linter.unusedVariables false
set_option maxRecDepth 100000

def nameF (op : Int) : ByteArray := if 1 ≤ op ∧ op ≤ 113 then nameT op.toNat else ⟨#[]⟩
def opF (s : ByteArray) : Nat := ((List.range 114).find? fun j => decide (1 ≤ j) && sameT j s).getD 0
theorem sameT_nameL {j k : Nat} {s : ByteArray} (a : sameT j s = true) (b : sameT k s = true) : nameL.getD j [] = nameL.getD k [] := by
  unfold sameT at a b
  have e : (nameT j).toList = (nameT k).toList := (beq_iff_eq.1 a).trans (beq_iff_eq.1 b).symm
  rw [ByteArray.toList_eq, ByteArray.toList_eq] at e
  simpa [nameT] using e
theorem sameT_uniq {j k : Nat} {s : ByteArray} (hj : j < 114) (hk : k < 114) (a : sameT j s = true) (b : sameT k s = true) : j = k := by
  have e := sameT_nameL a b
  rcases Nat.lt_trichotomy j k with h | h | h
  · exact absurd e (name_apart j hj k hk h)
  · exact h
  · exact absurd e.symm (name_apart k hk j hj h)
theorem opF_at {k : Nat} {s : ByteArray} (h1 : 1 ≤ k) (h2 : k ≤ 113) (h : sameT k s = true) : opF s = k := by
  unfold opF
  cases e : (List.range 114).find? fun j => decide (1 ≤ j) && sameT j s with
  | none =>
    have := (List.find?_eq_none.1 e) k (List.mem_range.2 (by omega))
    rw [decide_eq_true h1, h] at this
    simp at this
  | some j =>
    have hj := List.find?_some e
    have hm := List.mem_range.1 (List.mem_of_find?_eq_some e)
    rw [Bool.and_eq_true, decide_eq_true_eq] at hj
    exact sameT_uniq hm (by omega) hj.2 h
theorem opF_is {s : ByteArray} (h : ¬ opF s = 0) : 1 ≤ opF s ∧ opF s ≤ 113 ∧ sameT (opF s) s = true := by
  cases e : (List.range 114).find? fun j => decide (1 ≤ j) && sameT j s with
  | none => exact absurd (by unfold opF; rw [e]; rfl) h
  | some j =>
    have hj := List.find?_some e
    have hm := List.mem_range.1 (List.mem_of_find?_eq_some e)
    rw [Bool.and_eq_true, decide_eq_true_eq] at hj
    have : opF s = j := by unfold opF; rw [e]; rfl
    rw [this]; exact ⟨hj.1, by omega, hj.2⟩
theorem opF_none {s : ByteArray} (h : opF s = 0) (j : Nat) (h1 : 1 ≤ j) (h2 : j ≤ 113) : sameT j s = false := by
  cases e : sameT j s
  · rfl
  · rw [opF_at h1 h2 e] at h; omega
theorem first_no {s : ByteArray} (h : ¬ opF s = 0) (j : Nat) (h1 : 1 ≤ j) (h2 : j < opF s) : sameT j s = false := by
  obtain ⟨a, b, c⟩ := opF_is h
  cases e : sameT j s
  · rfl
  · have := sameT_uniq (by omega) (by omega) e c; omega
theorem name_is (op : Int) (w : World) : Calls Tryd.prog 15 #[.int .i64 op] w fun e w' => e = .returned (.string (nameF op)) ∧ Below w.heap.size w w' := by
  unfold nameF
  by_cases c : 1 ≤ op ∧ op ≤ 113
  · rw [if_pos c]
    have e : op = (op.toNat : Int) := by omega
    have h := name_yes op.toNat (by omega) (by omega) w
    rw [← e] at h; exact h
  · rw [if_neg c]; exact name_no op c w
theorem refname_is (op : Int) (w : World) : Calls Tryd.prog 16 #[.int .i64 op] w fun e w' => e = .returned (.string (nameF op)) ∧ Below w.heap.size w w' := by
  unfold nameF
  by_cases c : 1 ≤ op ∧ op ≤ 113
  · rw [if_pos c]
    have e : op = (op.toNat : Int) := by omega
    have h := refName_yes op.toNat (by omega) (by omega) w
    rw [← e] at h; exact h
  · rw [if_neg c]; exact refName_no op c w
theorem op_is (s : ByteArray) (w : World) : Calls Tryd.prog 17 #[.string s] w fun e w' => e = .returned (.int .i64 (opF s)) ∧ Below w.heap.size w w' := by
  by_cases c : opF s = 0
  · rw [c]; exact op_no s (fun j a b => opF_none c j a b) w
  · obtain ⟨a, b, d⟩ := opF_is c
    exact op_yes (opF s) a b s d (fun j x y => first_no c j x y) w
theorem refop_is (s : ByteArray) (w : World) : Calls Tryd.prog 18 #[.string s] w fun e w' => e = .returned (.int .i64 (opF s)) ∧ Below w.heap.size w w' := by
  by_cases c : opF s = 0
  · rw [c]; exact refOp_no s (fun j a b => opF_none c j a b) w
  · obtain ⟨a, b, d⟩ := opF_is c
    exact refOp_yes (opF s) a b s d (fun j x y => first_no c j x y) w
set_option maxHeartbeats 1000000 in
theorem decodeNames_walk (op : Int) (s : ByteArray) (w : World) (w0 : In63 op) (w1 : s.size ≤ maxLen) (ht : Tab w) :
    Calls Tryd.prog 5 #[.int .i64 op, .string s] w fun e w' => e = .returned (.bool true) ∧ Below w.heap.size w w' := by
  have H1 := Lib.hid fun w => name_is op w
  have H2 := Lib.hid fun w => refname_is op w
  have H3 := Lib.hid fun w => op_is s w
  have H4 := Lib.hid fun w => refop_is s w
  have HT := Lib.hid ht
  clear ht w0 w1
  generalize nameF op = nm at *
  generalize (opF s : Int) = k at *
  go_enter Tryd.func5, Tryd.ntmps5
  go_wp2_with (first
    | (go_at_call 15; (with_reducible refine (H1.out _).mono ?_); rintro e w1 ⟨rfl, hb1⟩; have HB1 := Lib.hid hb1; clear hb1)
    | (go_at_call 16; (with_reducible refine (H2.out _).mono ?_); rintro e w2 ⟨rfl, hb2⟩; have HB2 := Lib.hid (HB1.out.trans (hb2.mono HB1.out.size)); clear hb2)
    | (go_at_call 17; (with_reducible refine (H3.out _).mono ?_); rintro e w3 ⟨rfl, hb3⟩; have HB3 := Lib.hid (HB2.out.trans (hb3.mono HB2.out.size)); clear hb3)
    | (go_at_call 18; (with_reducible refine (H4.out _).mono ?_); rintro e w4 ⟨rfl, hb4⟩; have HB4 := Lib.hid (HB3.out.trans (hb4.mono HB3.out.size)); clear hb4)
    | (go_at_call 12; (with_reducible refine (wakes_any _ (HT.out.below HB4.out)).mono ?_); rintro e w5 ⟨rfl, hb5⟩; have HB5 := Lib.hid (HB4.out.trans (hb5.mono HB4.out.size)); clear hb5))
  go_ret
  exact ⟨rfl, HB5.out⟩

end Go.Proofs.YtehlihhnkojjeaaDoor
