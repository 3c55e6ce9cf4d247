/- Layer 9: Decode and Encode, the program's, by functions; wakes. -/
import Derived.Test.YtehlihhnkojjeaaDoorDsG
namespace Go.Proofs.YtehlihhnkojjeaaDoor
open Go.RowKit
set_option linter.unusedVariables false
set_option maxRecDepth 100000

theorem decode_is (x : Int) (w : World) (ht : Tab w) :
    Calls Tryd.prog 10 #[.int .u32 x] w fun e w' => e = .returned (.tuple #[.agg #[.int .i64 (decI x).op, .int .i64 (decI x).rd, .int .i64 (decI x).a, .int .i64 (decI x).b, .int .i64 (decI x).imm, .int .i64 (decI x).csr, .bool (decI x).aq, .bool (decI x).rl], .bool (decB x)]) ∧ Below w.heap.size w w' := by
  by_cases h : decK x = 0
  · have e1 : decI x = insZ := by unfold decI; rw [if_pos h]
    have e2 : decB x = false := by unfold decB; simp [h]
    rw [e1, e2]
    exact decode_no x (fun j a b => decK_none h j a b) w ht
  · obtain ⟨h1, h2, h3⟩ := decK_is h
    have e1 : decI x = says (fT (decK x)) (decK x) x := by unfold decI; rw [if_neg h]
    have e2 : decB x = true := by unfold decB; simp [h]
    rw [e1, e2]
    exact decode_yes (decK x) h1 h2 x h3 w ht
theorem encode_is (i : Ins) (w : World) (ht : Tab w) :
    Calls Tryd.prog 13 #[.agg #[.int .i64 i.op, .int .i64 i.rd, .int .i64 i.a, .int .i64 i.b, .int .i64 i.imm, .int .i64 i.csr, .bool i.aq, .bool i.rl]] w fun e w' => e = .returned (.tuple #[.int .u32 (encW i), .int .i64 (encE i)]) ∧ Below w.heap.size w w' := by
  unfold encW encE
  cases h : rightB i
  · show Calls Tryd.prog 13 _ w fun e w' => e = .returned (.tuple #[.int .u32 0, .int .i64 80]) ∧ _
    by_cases c : 1 ≤ i.op ∧ i.op ≤ 113
    · have e : i.op = (i.op.toNat : Int) := by omega
      refine encode_false i.op.toNat (by omega) (by omega) i e _ rfl ?_ w ht
      cases hq : eqI (says (fT i.op.toNat) i.op (wordI (matT i.op.toNat) (fT i.op.toNat) i)) i
      · rfl
      · unfold rightB at h
        rw [decide_eq_true c, hq] at h; cases h
    · exact encode_none i c w
  · obtain ⟨h1, h2, h3, h4⟩ := rightT_of h
    show Calls Tryd.prog 13 _ w fun e w' => e = .returned (.tuple #[.int .u32 (wordI (matT i.op.toNat) (fT i.op.toNat) i), .int .i64 0]) ∧ _
    exact encode_true i.op.toNat h1 h2 i h3 _ rfl ((eqI_iff _ _).2 ((right_iff h1 (by omega) i).2 h4)) w ht

set_option maxHeartbeats 1000000 in
theorem wakes_any (w : World) (ht : Tab w) : Calls Tryd.prog 12 #[] w fun e w' => e = .returned (.bool true) ∧ Below w.heap.size w w' := by
  have H1 : Hid (∀ w, Tab w → Calls Tryd.prog 10 #[.int .u32 5243027] w fun e w' => e = .returned (.tuple #[.agg #[.int .i64 22, .int .i64 1, .int .i64 0, .int .i64 0, .int .i64 5, .int .i64 0, .bool false, .bool false], .bool true]) ∧ Below w.heap.size w w') := Lib.hid fun w ht => by
    have h := decode_is 5243027 w ht
    rw [wake1.1, (eqI_iff _ _).1 wake1.2] at h; exact h
  have H2 : Hid (∀ w, Tab w → Calls Tryd.prog 13 #[.agg #[.int .i64 6, .int .i64 0, .int .i64 1, .int .i64 2, .int .i64 (-4), .int .i64 0, .bool false, .bool false]] w fun e w' => e = .returned (.tuple #[.int .u32 4263550691, .int .i64 0]) ∧ Below w.heap.size w w') := Lib.hid fun w ht => by
    have h := encode_is ⟨6, 0, 1, 2, -4, 0, false, false⟩ w ht
    rw [wake2.1, wake2.2] at h; exact h
  have HT := Lib.hid ht
  clear ht
  go_enter Tryd.func12, Tryd.ntmps12
  go_wp2_with (first
    | (go_at_call 10; (with_reducible refine (H1.out _ HT.out).mono ?_); rintro e w1 ⟨rfl, hb1⟩; have HB1 := Lib.hid (hb1.alloc hb1.size (.cells #[.int .i64 22, .int .i64 1, .int .i64 0, .int .i64 0, .int .i64 5, .int .i64 0, .bool false, .bool false] 24)); clear hb1)
    | (go_at_call 13; (with_reducible refine (H2.out _ (HT.out.below HB1.out)).mono ?_); rintro e w2 ⟨rfl, hb2⟩; have hz2 : w1.heap.size < w2.heap.size := (by have := hb2.size; simp at this; omega); obtain ⟨hc2, hf2⟩ := bcell hb2; have HB2 := Lib.hid (HB1.out.trans (hb2.mono HB1.out.size)); clear hb2))
  go_ret
  exact ⟨rfl, HB2.out⟩

end Go.Proofs.YtehlihhnkojjeaaDoor
