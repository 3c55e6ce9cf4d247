/- Layer 9: the walk of DecodeWords. -/
import Derived.Test.YtehlihhnkojjeaaDoorDv
namespace Go.Proofs.YtehlihhnkojjeaaDoor
open Go.RowKit
set_option linter.unusedVariables false
set_option maxRecDepth 100000

theorem refDecode_is (x : Int) (hx : In32 x) (w : World) :
    Calls Tryd.prog 11 #[.int .u32 x] w fun e w' => e = .returned (.tuple #[.agg #[.int .i64 (decI x).op, .int .i64 (decI x).rd, .int .i64 (decI x).a, .int .i64 (decI x).b, .int .i64 (decI x).imm, .int .i64 (decI x).csr, .bool (decI x).aq, .bool (decI x).rl], .bool (decB x)]) ∧ Below w.heap.size w w' := by
  by_cases h : decK x = 0
  · have e1 : decI x = insZ := by unfold decI; rw [if_pos h]
    have e2 : decB x = false := by unfold decB; simp [h]
    rw [e1, e2]
    exact refDecode_no x (fun j a b => decK_none h j a b) w
  · obtain ⟨h1, h2, h3⟩ := decK_is h
    have e1 : decI x = says (fT (decK x)) (decK x) x := by unfold decI; rw [if_neg h]
    have e2 : decB x = true := by unfold decB; simp [h]
    rw [e1, e2]
    exact refDecode_yes (decK x) h1 h2 x hx h3 w
set_option maxHeartbeats 1000000 in
theorem decodeWords_walk (x : Int) (w : World) (w0 : In32 x) (ht : Tab w) :
    Calls Tryd.prog 3 #[.int .u32 x] w fun e w' => e = .returned (.bool true) ∧ Below w.heap.size w w' := by
  have H1 := Lib.hid fun w ht => decode_is x w ht
  have H2 := Lib.hid fun w => refDecode_is x w0 w
  have HT := Lib.hid ht
  clear ht w0
  generalize decI x = I at *
  generalize decB x = q at *
  go_enter Tryd.func3, Tryd.ntmps3
  go_wp2_with (first
    | (go_at_call 10; (with_reducible refine (H1.out _ HT.out).mono ?_); rintro e w1 ⟨rfl, hb1⟩; have HB1 := Lib.hid (hb1.alloc hb1.size (.cells #[.int .i64 I.op, .int .i64 I.rd, .int .i64 I.a, .int .i64 I.b, .int .i64 I.imm, .int .i64 I.csr, .bool I.aq, .bool I.rl] 24)); clear hb1)
    | (go_at_call 11; (with_reducible refine (H2.out _).mono ?_); rintro e w2 ⟨rfl, hb2⟩; have hz2 : w1.heap.size < w2.heap.size := (by have := hb2.size; simp at this; omega); obtain ⟨hc2, hf2⟩ := bcell hb2; have HB2 := Lib.hid ((HB1.out.trans (hb2.mono HB1.out.size)).alloc (Nat.le_trans HB1.out.size hb2.size) (.cells #[.int .i64 I.op, .int .i64 I.rd, .int .i64 I.a, .int .i64 I.b, .int .i64 I.imm, .int .i64 I.csr, .bool I.aq, .bool I.rl] 24)); clear hb2)
    | (go_at_call 12; (with_reducible refine (wakes_any _ (HT.out.below HB2.out)).mono ?_); rintro e w3 ⟨rfl, hb3⟩; have HB3 := Lib.hid (HB2.out.trans (hb3.mono HB2.out.size)); clear hb3))
  go_ret
  exact ⟨rfl, HB3.out⟩

end Go.Proofs.YtehlihhnkojjeaaDoor
