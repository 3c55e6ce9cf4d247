/- Layer 9: the walk of DecodeBack. -/
import Derived.Test.YtehlihhnkojjeaaDoorLawDecodeNames
import Derived.Test.YtehlihhnkojjeaaDoorDrive
import Derived.Test.YtehlihhnkojjeaaDoorIns
namespace Go.Proofs.YtehlihhnkojjeaaDoor
open Go.RowKit
set_option linter.unusedVariables false
set_option maxRecDepth 100000

theorem name_op {x : Int} (h : decB x = true) (w : World) : Calls Tryd.prog 17 #[.string (nameF (decI x).op)] w fun e w' => e = .returned (.int .i64 (decI x).op) ∧ Below w.heap.size w w' := by
  obtain ⟨h1, h2, h3⟩ := decK_is (dec_pos h)
  have e : nameF (decI x).op = nameT (decK x) := by unfold nameF; rw [dec_op h, if_pos (by omega), show ((decK x : Int)).toNat = decK x by omega]
  have e2 : opF (nameT (decK x)) = decK x := opF_at h1 h2 (by unfold sameT; exact beq_iff_eq.2 rfl)
  rw [e, dec_op h]
  have h := op_is (nameT (decK x)) w
  rw [e2] at h; exact h

set_option maxHeartbeats 4000000 in
theorem back_none_bad (x : Int) (i : Ins) (w : World) (w0 : In32 x) (h1 : decB x = false) (h2 : ¬ encE i = 0) (ht : Tab w) :
    Calls Tryd.prog 7 #[.int .u32 x, .agg #[.int .i64 i.op, .int .i64 i.rd, .int .i64 i.a, .int .i64 i.b, .int .i64 i.imm, .int .i64 i.csr, .bool i.aq, .bool i.rl]] w fun e w' => e = .returned (.bool true) ∧ Below w.heap.size w w' := by
  have H1 : Hid (∀ w, Tab w → Calls Tryd.prog 10 #[.int .u32 x] w fun e w' => e = .returned (.tuple #[.agg #[.int .i64 0, .int .i64 0, .int .i64 0, .int .i64 0, .int .i64 0, .int .i64 0, .bool false, .bool false], .bool false]) ∧ Below w.heap.size w w') := Lib.hid fun w ht => by have h := decode_is x w ht; rw [dec_zero h1] at h; rw [h1] at h; exact h
  have H3 : Hid (∀ w, Tab w → Calls Tryd.prog 13 #[.agg #[.int .i64 i.op, .int .i64 i.rd, .int .i64 i.a, .int .i64 i.b, .int .i64 i.imm, .int .i64 i.csr, .bool i.aq, .bool i.rl]] w fun e w' => e = .returned (.tuple #[.int .u32 0, .int .i64 80]) ∧ Below w.heap.size w w') := Lib.hid fun w ht => by have h := encode_is i w ht; rw [(enc_not h2).1, (enc_not h2).2] at h; exact h
  have HT := Lib.hid ht
  clear ht h1 h2 w0
  go_enter Tryd.func7, Tryd.ntmps7
  go_wp2_with (first
    | (go_at_call 10; (with_reducible refine (H1.out _ (HT.out.below ((Below.refl _ _).alloc (Nat.le_refl _) (.cells #[.int .i64 i.op, .int .i64 i.rd, .int .i64 i.a, .int .i64 i.b, .int .i64 i.imm, .int .i64 i.csr, .bool i.aq, .bool i.rl] 24)))).mono ?_); rintro e w1 ⟨rfl, hb1⟩; have hn1 : w.heap.size < w1.heap.size := (by have := hb1.size; simp at this; omega); have HIR : Hid (w1.heap[w.heap.size]? = some (.cells #[.int .i64 i.op, .int .i64 i.rd, .int .i64 i.a, .int .i64 i.b, .int .i64 i.imm, .int .i64 i.csr, .bool i.aq, .bool i.rl] 24 (0, 0))) := Lib.hid ((hb1.block _ (by simp)).trans (heap_alloc_new w _)); have HB1 : Hid (Below w.heap.size w w1) := Lib.hid (((Below.refl _ _).alloc (Nat.le_refl _) _).trans (hb1.mono (by simp))); have x0 : w1.cell? ⟨w.heap.size, 0, none⟩ = some (.int .i64 i.op) := (by rw [cell_of_row _ _ _ _ _ _ HIR.out]; rfl); have x1 : w1.cell? ⟨w.heap.size, 1, none⟩ = some (.int .i64 i.rd) := (by rw [cell_of_row _ _ _ _ _ _ HIR.out]; rfl); have x2 : w1.cell? ⟨w.heap.size, 2, none⟩ = some (.int .i64 i.a) := (by rw [cell_of_row _ _ _ _ _ _ HIR.out]; rfl); have x3 : w1.cell? ⟨w.heap.size, 3, none⟩ = some (.int .i64 i.b) := (by rw [cell_of_row _ _ _ _ _ _ HIR.out]; rfl); have x4 : w1.cell? ⟨w.heap.size, 4, none⟩ = some (.int .i64 i.imm) := (by rw [cell_of_row _ _ _ _ _ _ HIR.out]; rfl); have x5 : w1.cell? ⟨w.heap.size, 5, none⟩ = some (.int .i64 i.csr) := (by rw [cell_of_row _ _ _ _ _ _ HIR.out]; rfl); have x6 : w1.cell? ⟨w.heap.size, 6, none⟩ = some (.bool i.aq) := (by rw [cell_of_row _ _ _ _ _ _ HIR.out]; rfl); have x7 : w1.cell? ⟨w.heap.size, 7, none⟩ = some (.bool i.rl) := (by rw [cell_of_row _ _ _ _ _ _ HIR.out]; rfl); have HBP : Hid (Below w.heap.size w (w1.alloc (.cells #[.int .i64 0, .int .i64 0, .int .i64 0, .int .i64 0, .int .i64 0, .int .i64 0, .bool false, .bool false] 24))) := Lib.hid (HB1.out.alloc HB1.out.size _); have HNP : Hid ((w1.alloc (.cells #[.int .i64 0, .int .i64 0, .int .i64 0, .int .i64 0, .int .i64 0, .int .i64 0, .bool false, .bool false] 24)).heap[w.heap.size]? = some (.cells #[.int .i64 i.op, .int .i64 i.rd, .int .i64 i.a, .int .i64 i.b, .int .i64 i.imm, .int .i64 i.csr, .bool i.aq, .bool i.rl] 24 (0, 0))) := Lib.hid ((Below.heap_alloc _ _ _ hn1).trans HIR.out); have HMP : Hid ((w1.alloc (.cells #[.int .i64 0, .int .i64 0, .int .i64 0, .int .i64 0, .int .i64 0, .int .i64 0, .bool false, .bool false] 24)).heap[w1.heap.size]? = some (.cells #[.int .i64 0, .int .i64 0, .int .i64 0, .int .i64 0, .int .i64 0, .int .i64 0, .bool false, .bool false] 24 (0, 0))) := Lib.hid (heap_alloc_new w1 _); have hnP : w.heap.size < (w1.alloc (.cells #[.int .i64 0, .int .i64 0, .int .i64 0, .int .i64 0, .int .i64 0, .int .i64 0, .bool false, .bool false] 24)).heap.size := (by rw [World.size_alloc]; omega); have hmP : w1.heap.size < (w1.alloc (.cells #[.int .i64 0, .int .i64 0, .int .i64 0, .int .i64 0, .int .i64 0, .int .i64 0, .bool false, .bool false] 24)).heap.size := (by rw [World.size_alloc]; omega); clear hb1)
    | (go_at_call 13; (with_reducible refine (H3.out _ (HT.out.below HBP.out)).mono ?_); rintro e w4 ⟨rfl, hbx⟩; have HB4 := Lib.hid (HBP.out.trans (hbx.mono HBP.out.size)); have HN4 : Hid (w4.heap[w.heap.size]? = some (.cells #[.int .i64 i.op, .int .i64 i.rd, .int .i64 i.a, .int .i64 i.b, .int .i64 i.imm, .int .i64 i.csr, .bool i.aq, .bool i.rl] 24 (0, 0))) := Lib.hid ((hbx.block _ hnP).trans HNP.out); have HM4 : Hid (w4.heap[w1.heap.size]? = some (.cells #[.int .i64 0, .int .i64 0, .int .i64 0, .int .i64 0, .int .i64 0, .int .i64 0, .bool false, .bool false] 24 (0, 0))) := Lib.hid ((hbx.block _ hmP).trans HMP.out); have hn4 := Nat.lt_of_lt_of_le hnP hbx.size; have hm4 := Nat.lt_of_lt_of_le hmP hbx.size; clear hbx)
    | (go_at_call 12; (with_reducible refine (wakes_any _ (HT.out.below HB4.out)).mono ?_); rintro e w6 ⟨rfl, hb6⟩; have HB6 := Lib.hid (HB4.out.trans (hb6.mono HB4.out.size)); clear hb6))
  go_ret
  exact ⟨rfl, HB6.out⟩

set_option maxHeartbeats 4000000 in
theorem back_none_good (x : Int) (i : Ins) (w : World) (w0 : In32 x) (h1 : decB x = false) (h2 : encE i = 0) (ht : Tab w) :
    Calls Tryd.prog 7 #[.int .u32 x, .agg #[.int .i64 i.op, .int .i64 i.rd, .int .i64 i.a, .int .i64 i.b, .int .i64 i.imm, .int .i64 i.csr, .bool i.aq, .bool i.rl]] w fun e w' => e = .returned (.bool true) ∧ Below w.heap.size w w' := by
  have H1 : Hid (∀ w, Tab w → Calls Tryd.prog 10 #[.int .u32 x] w fun e w' => e = .returned (.tuple #[.agg #[.int .i64 0, .int .i64 0, .int .i64 0, .int .i64 0, .int .i64 0, .int .i64 0, .bool false, .bool false], .bool false]) ∧ Below w.heap.size w w') := Lib.hid fun w ht => by have h := decode_is x w ht; rw [dec_zero h1] at h; rw [h1] at h; exact h
  have H3 : Hid (∀ w, Tab w → Calls Tryd.prog 13 #[.agg #[.int .i64 i.op, .int .i64 i.rd, .int .i64 i.a, .int .i64 i.b, .int .i64 i.imm, .int .i64 i.csr, .bool i.aq, .bool i.rl]] w fun e w' => e = .returned (.tuple #[.int .u32 (encW i), .int .i64 0]) ∧ Below w.heap.size w w') := Lib.hid fun w ht => by have h := encode_is i w ht; rw [h2] at h; exact h
  have H4 : Hid (∀ w, Tab w → Calls Tryd.prog 10 #[.int .u32 (encW i)] w fun e w' => e = .returned (.tuple #[.agg #[.int .i64 i.op, .int .i64 i.rd, .int .i64 i.a, .int .i64 i.b, .int .i64 i.imm, .int .i64 i.csr, .bool i.aq, .bool i.rl], .bool true]) ∧ Below w.heap.size w w') := Lib.hid fun w ht => by have h := decode_is (encW i) w ht; rw [(dec_enc h2).1, (dec_enc h2).2.1] at h; exact h
  generalize encW i = V at *
  have HT := Lib.hid ht
  clear ht h1 h2 w0
  go_enter Tryd.func7, Tryd.ntmps7
  go_wp2_with (first
    | (go_at_call 10; (with_reducible refine (H1.out _ (HT.out.below ((Below.refl _ _).alloc (Nat.le_refl _) (.cells #[.int .i64 i.op, .int .i64 i.rd, .int .i64 i.a, .int .i64 i.b, .int .i64 i.imm, .int .i64 i.csr, .bool i.aq, .bool i.rl] 24)))).mono ?_); rintro e w1 ⟨rfl, hb1⟩; have hn1 : w.heap.size < w1.heap.size := (by have := hb1.size; simp at this; omega); have HIR : Hid (w1.heap[w.heap.size]? = some (.cells #[.int .i64 i.op, .int .i64 i.rd, .int .i64 i.a, .int .i64 i.b, .int .i64 i.imm, .int .i64 i.csr, .bool i.aq, .bool i.rl] 24 (0, 0))) := Lib.hid ((hb1.block _ (by simp)).trans (heap_alloc_new w _)); have HB1 : Hid (Below w.heap.size w w1) := Lib.hid (((Below.refl _ _).alloc (Nat.le_refl _) _).trans (hb1.mono (by simp))); have x0 : w1.cell? ⟨w.heap.size, 0, none⟩ = some (.int .i64 i.op) := (by rw [cell_of_row _ _ _ _ _ _ HIR.out]; rfl); have x1 : w1.cell? ⟨w.heap.size, 1, none⟩ = some (.int .i64 i.rd) := (by rw [cell_of_row _ _ _ _ _ _ HIR.out]; rfl); have x2 : w1.cell? ⟨w.heap.size, 2, none⟩ = some (.int .i64 i.a) := (by rw [cell_of_row _ _ _ _ _ _ HIR.out]; rfl); have x3 : w1.cell? ⟨w.heap.size, 3, none⟩ = some (.int .i64 i.b) := (by rw [cell_of_row _ _ _ _ _ _ HIR.out]; rfl); have x4 : w1.cell? ⟨w.heap.size, 4, none⟩ = some (.int .i64 i.imm) := (by rw [cell_of_row _ _ _ _ _ _ HIR.out]; rfl); have x5 : w1.cell? ⟨w.heap.size, 5, none⟩ = some (.int .i64 i.csr) := (by rw [cell_of_row _ _ _ _ _ _ HIR.out]; rfl); have x6 : w1.cell? ⟨w.heap.size, 6, none⟩ = some (.bool i.aq) := (by rw [cell_of_row _ _ _ _ _ _ HIR.out]; rfl); have x7 : w1.cell? ⟨w.heap.size, 7, none⟩ = some (.bool i.rl) := (by rw [cell_of_row _ _ _ _ _ _ HIR.out]; rfl); have HBP : Hid (Below w.heap.size w (w1.alloc (.cells #[.int .i64 0, .int .i64 0, .int .i64 0, .int .i64 0, .int .i64 0, .int .i64 0, .bool false, .bool false] 24))) := Lib.hid (HB1.out.alloc HB1.out.size _); have HNP : Hid ((w1.alloc (.cells #[.int .i64 0, .int .i64 0, .int .i64 0, .int .i64 0, .int .i64 0, .int .i64 0, .bool false, .bool false] 24)).heap[w.heap.size]? = some (.cells #[.int .i64 i.op, .int .i64 i.rd, .int .i64 i.a, .int .i64 i.b, .int .i64 i.imm, .int .i64 i.csr, .bool i.aq, .bool i.rl] 24 (0, 0))) := Lib.hid ((Below.heap_alloc _ _ _ hn1).trans HIR.out); have HMP : Hid ((w1.alloc (.cells #[.int .i64 0, .int .i64 0, .int .i64 0, .int .i64 0, .int .i64 0, .int .i64 0, .bool false, .bool false] 24)).heap[w1.heap.size]? = some (.cells #[.int .i64 0, .int .i64 0, .int .i64 0, .int .i64 0, .int .i64 0, .int .i64 0, .bool false, .bool false] 24 (0, 0))) := Lib.hid (heap_alloc_new w1 _); have hnP : w.heap.size < (w1.alloc (.cells #[.int .i64 0, .int .i64 0, .int .i64 0, .int .i64 0, .int .i64 0, .int .i64 0, .bool false, .bool false] 24)).heap.size := (by rw [World.size_alloc]; omega); have hmP : w1.heap.size < (w1.alloc (.cells #[.int .i64 0, .int .i64 0, .int .i64 0, .int .i64 0, .int .i64 0, .int .i64 0, .bool false, .bool false] 24)).heap.size := (by rw [World.size_alloc]; omega); clear hb1)
    | (go_at_call 13; (with_reducible refine (H3.out _ (HT.out.below HBP.out)).mono ?_); rintro e w4 ⟨rfl, hbx⟩; have HB4 := Lib.hid (HBP.out.trans (hbx.mono HBP.out.size)); have HN4 : Hid (w4.heap[w.heap.size]? = some (.cells #[.int .i64 i.op, .int .i64 i.rd, .int .i64 i.a, .int .i64 i.b, .int .i64 i.imm, .int .i64 i.csr, .bool i.aq, .bool i.rl] 24 (0, 0))) := Lib.hid ((hbx.block _ hnP).trans HNP.out); have HM4 : Hid (w4.heap[w1.heap.size]? = some (.cells #[.int .i64 0, .int .i64 0, .int .i64 0, .int .i64 0, .int .i64 0, .int .i64 0, .bool false, .bool false] 24 (0, 0))) := Lib.hid ((hbx.block _ hmP).trans HMP.out); have hn4 := Nat.lt_of_lt_of_le hnP hbx.size; have hm4 := Nat.lt_of_lt_of_le hmP hbx.size; clear hbx)
    | (go_at_call 10; (with_reducible refine (H4.out _ (HT.out.below HB4.out)).mono ?_); rintro e w5 ⟨rfl, hbx⟩; have HB5 := Lib.hid (HB4.out.trans (hbx.mono HB4.out.size)); have HN5 : Hid (w5.heap[w.heap.size]? = some (.cells #[.int .i64 i.op, .int .i64 i.rd, .int .i64 i.a, .int .i64 i.b, .int .i64 i.imm, .int .i64 i.csr, .bool i.aq, .bool i.rl] 24 (0, 0))) := Lib.hid ((hbx.block _ hn4).trans HN4.out); have HM5 : Hid (w5.heap[w1.heap.size]? = some (.cells #[.int .i64 0, .int .i64 0, .int .i64 0, .int .i64 0, .int .i64 0, .int .i64 0, .bool false, .bool false] 24 (0, 0))) := Lib.hid ((hbx.block _ hm4).trans HM4.out); have hn5 := Nat.lt_of_lt_of_le hn4 hbx.size; have hm5 := Nat.lt_of_lt_of_le hm4 hbx.size; have y0 : (w5.setRow w1.heap.size #[.int .i64 i.op, .int .i64 i.rd, .int .i64 i.a, .int .i64 i.b, .int .i64 i.imm, .int .i64 i.csr, .bool i.aq, .bool i.rl]).cell? ⟨w1.heap.size, 0, none⟩ = some (.int .i64 i.op) := (by rw [cell_of_row _ _ _ _ _ _ (setRow_heap _ _ _ _ _ _ HM5.out)]; rfl); have y1 : (w5.setRow w1.heap.size #[.int .i64 i.op, .int .i64 i.rd, .int .i64 i.a, .int .i64 i.b, .int .i64 i.imm, .int .i64 i.csr, .bool i.aq, .bool i.rl]).cell? ⟨w1.heap.size, 1, none⟩ = some (.int .i64 i.rd) := (by rw [cell_of_row _ _ _ _ _ _ (setRow_heap _ _ _ _ _ _ HM5.out)]; rfl); have y2 : (w5.setRow w1.heap.size #[.int .i64 i.op, .int .i64 i.rd, .int .i64 i.a, .int .i64 i.b, .int .i64 i.imm, .int .i64 i.csr, .bool i.aq, .bool i.rl]).cell? ⟨w1.heap.size, 2, none⟩ = some (.int .i64 i.a) := (by rw [cell_of_row _ _ _ _ _ _ (setRow_heap _ _ _ _ _ _ HM5.out)]; rfl); have y3 : (w5.setRow w1.heap.size #[.int .i64 i.op, .int .i64 i.rd, .int .i64 i.a, .int .i64 i.b, .int .i64 i.imm, .int .i64 i.csr, .bool i.aq, .bool i.rl]).cell? ⟨w1.heap.size, 3, none⟩ = some (.int .i64 i.b) := (by rw [cell_of_row _ _ _ _ _ _ (setRow_heap _ _ _ _ _ _ HM5.out)]; rfl); have y4 : (w5.setRow w1.heap.size #[.int .i64 i.op, .int .i64 i.rd, .int .i64 i.a, .int .i64 i.b, .int .i64 i.imm, .int .i64 i.csr, .bool i.aq, .bool i.rl]).cell? ⟨w1.heap.size, 4, none⟩ = some (.int .i64 i.imm) := (by rw [cell_of_row _ _ _ _ _ _ (setRow_heap _ _ _ _ _ _ HM5.out)]; rfl); have y5 : (w5.setRow w1.heap.size #[.int .i64 i.op, .int .i64 i.rd, .int .i64 i.a, .int .i64 i.b, .int .i64 i.imm, .int .i64 i.csr, .bool i.aq, .bool i.rl]).cell? ⟨w1.heap.size, 5, none⟩ = some (.int .i64 i.csr) := (by rw [cell_of_row _ _ _ _ _ _ (setRow_heap _ _ _ _ _ _ HM5.out)]; rfl); have y6 : (w5.setRow w1.heap.size #[.int .i64 i.op, .int .i64 i.rd, .int .i64 i.a, .int .i64 i.b, .int .i64 i.imm, .int .i64 i.csr, .bool i.aq, .bool i.rl]).cell? ⟨w1.heap.size, 6, none⟩ = some (.bool i.aq) := (by rw [cell_of_row _ _ _ _ _ _ (setRow_heap _ _ _ _ _ _ HM5.out)]; rfl); have y7 : (w5.setRow w1.heap.size #[.int .i64 i.op, .int .i64 i.rd, .int .i64 i.a, .int .i64 i.b, .int .i64 i.imm, .int .i64 i.csr, .bool i.aq, .bool i.rl]).cell? ⟨w1.heap.size, 7, none⟩ = some (.bool i.rl) := (by rw [cell_of_row _ _ _ _ _ _ (setRow_heap _ _ _ _ _ _ HM5.out)]; rfl); have z0 : (w5.setRow w1.heap.size #[.int .i64 i.op, .int .i64 i.rd, .int .i64 i.a, .int .i64 i.b, .int .i64 i.imm, .int .i64 i.csr, .bool i.aq, .bool i.rl]).cell? ⟨w.heap.size, 0, none⟩ = some (.int .i64 i.op) := (by rw [cell_of_row _ _ _ _ _ _ ((setRow_other w5 _ _ _ (by omega)).trans HN5.out)]; rfl); have z1 : (w5.setRow w1.heap.size #[.int .i64 i.op, .int .i64 i.rd, .int .i64 i.a, .int .i64 i.b, .int .i64 i.imm, .int .i64 i.csr, .bool i.aq, .bool i.rl]).cell? ⟨w.heap.size, 1, none⟩ = some (.int .i64 i.rd) := (by rw [cell_of_row _ _ _ _ _ _ ((setRow_other w5 _ _ _ (by omega)).trans HN5.out)]; rfl); have z2 : (w5.setRow w1.heap.size #[.int .i64 i.op, .int .i64 i.rd, .int .i64 i.a, .int .i64 i.b, .int .i64 i.imm, .int .i64 i.csr, .bool i.aq, .bool i.rl]).cell? ⟨w.heap.size, 2, none⟩ = some (.int .i64 i.a) := (by rw [cell_of_row _ _ _ _ _ _ ((setRow_other w5 _ _ _ (by omega)).trans HN5.out)]; rfl); have z3 : (w5.setRow w1.heap.size #[.int .i64 i.op, .int .i64 i.rd, .int .i64 i.a, .int .i64 i.b, .int .i64 i.imm, .int .i64 i.csr, .bool i.aq, .bool i.rl]).cell? ⟨w.heap.size, 3, none⟩ = some (.int .i64 i.b) := (by rw [cell_of_row _ _ _ _ _ _ ((setRow_other w5 _ _ _ (by omega)).trans HN5.out)]; rfl); have z4 : (w5.setRow w1.heap.size #[.int .i64 i.op, .int .i64 i.rd, .int .i64 i.a, .int .i64 i.b, .int .i64 i.imm, .int .i64 i.csr, .bool i.aq, .bool i.rl]).cell? ⟨w.heap.size, 4, none⟩ = some (.int .i64 i.imm) := (by rw [cell_of_row _ _ _ _ _ _ ((setRow_other w5 _ _ _ (by omega)).trans HN5.out)]; rfl); have z5 : (w5.setRow w1.heap.size #[.int .i64 i.op, .int .i64 i.rd, .int .i64 i.a, .int .i64 i.b, .int .i64 i.imm, .int .i64 i.csr, .bool i.aq, .bool i.rl]).cell? ⟨w.heap.size, 5, none⟩ = some (.int .i64 i.csr) := (by rw [cell_of_row _ _ _ _ _ _ ((setRow_other w5 _ _ _ (by omega)).trans HN5.out)]; rfl); have z6 : (w5.setRow w1.heap.size #[.int .i64 i.op, .int .i64 i.rd, .int .i64 i.a, .int .i64 i.b, .int .i64 i.imm, .int .i64 i.csr, .bool i.aq, .bool i.rl]).cell? ⟨w.heap.size, 6, none⟩ = some (.bool i.aq) := (by rw [cell_of_row _ _ _ _ _ _ ((setRow_other w5 _ _ _ (by omega)).trans HN5.out)]; rfl); have z7 : (w5.setRow w1.heap.size #[.int .i64 i.op, .int .i64 i.rd, .int .i64 i.a, .int .i64 i.b, .int .i64 i.imm, .int .i64 i.csr, .bool i.aq, .bool i.rl]).cell? ⟨w.heap.size, 7, none⟩ = some (.bool i.rl) := (by rw [cell_of_row _ _ _ _ _ _ ((setRow_other w5 _ _ _ (by omega)).trans HN5.out)]; rfl); clear hbx)
    | (refine wpList_store_row rfl _ _ _ rfl w1.heap.size _ rfl rfl 24 _ HM5.out size_ins rfl (by simp [Value.oneCell']) ?_)
    | (go_at_call 12; (with_reducible refine (wakes_any _ (HT.out.below (below_setRow HB5.out (Nat.le_of_lt hn1) _))).mono ?_); rintro e w6 ⟨rfl, hb6⟩; have HB6 := Lib.hid ((below_setRow HB5.out (Nat.le_of_lt hn1) _).trans (hb6.mono (below_setRow HB5.out (Nat.le_of_lt hn1) _).size)); clear hb6))
  go_ret
  exact ⟨rfl, HB6.out⟩

set_option maxHeartbeats 4000000 in
theorem back_some_bad (x : Int) (i : Ins) (w : World) (w0 : In32 x) (h1 : decB x = true) (h2 : ¬ encE i = 0) (ht : Tab w) :
    Calls Tryd.prog 7 #[.int .u32 x, .agg #[.int .i64 i.op, .int .i64 i.rd, .int .i64 i.a, .int .i64 i.b, .int .i64 i.imm, .int .i64 i.csr, .bool i.aq, .bool i.rl]] w fun e w' => e = .returned (.bool true) ∧ Below w.heap.size w w' := by
  have H1 : Hid (∀ w, Tab w → Calls Tryd.prog 10 #[.int .u32 x] w fun e w' => e = .returned (.tuple #[.agg #[.int .i64 (decI x).op, .int .i64 (decI x).rd, .int .i64 (decI x).a, .int .i64 (decI x).b, .int .i64 (decI x).imm, .int .i64 (decI x).csr, .bool (decI x).aq, .bool (decI x).rl], .bool true]) ∧ Below w.heap.size w w') := Lib.hid fun w ht => by have h := decode_is x w ht; rw [h1] at h; exact h
  have H2 : Hid (∀ w, Tab w → Calls Tryd.prog 13 #[.agg #[.int .i64 (decI x).op, .int .i64 (decI x).rd, .int .i64 (decI x).a, .int .i64 (decI x).b, .int .i64 (decI x).imm, .int .i64 (decI x).csr, .bool (decI x).aq, .bool (decI x).rl]] w fun e w' => e = .returned (.tuple #[.int .u32 x, .int .i64 0]) ∧ Below w.heap.size w w') := Lib.hid fun w ht => by have h := encode_is (decI x) w ht; rw [(enc_dec w0 h1).1, (enc_dec w0 h1).2] at h; exact h
  have HNM := Lib.hid fun w => name_is (decI x).op w
  have HOP := Lib.hid fun w => name_op h1 w
  have H3 : Hid (∀ w, Tab w → Calls Tryd.prog 13 #[.agg #[.int .i64 i.op, .int .i64 i.rd, .int .i64 i.a, .int .i64 i.b, .int .i64 i.imm, .int .i64 i.csr, .bool i.aq, .bool i.rl]] w fun e w' => e = .returned (.tuple #[.int .u32 0, .int .i64 80]) ∧ Below w.heap.size w w') := Lib.hid fun w ht => by have h := encode_is i w ht; rw [(enc_not h2).1, (enc_not h2).2] at h; exact h
  have HT := Lib.hid ht
  clear ht h1 h2 w0
  generalize decI x = I at *
  generalize nameF I.op = nm at *
  go_enter Tryd.func7, Tryd.ntmps7
  go_wp2_with (first
    | (go_at_call 10; (with_reducible refine (H1.out _ (HT.out.below ((Below.refl _ _).alloc (Nat.le_refl _) (.cells #[.int .i64 i.op, .int .i64 i.rd, .int .i64 i.a, .int .i64 i.b, .int .i64 i.imm, .int .i64 i.csr, .bool i.aq, .bool i.rl] 24)))).mono ?_); rintro e w1 ⟨rfl, hb1⟩; have hn1 : w.heap.size < w1.heap.size := (by have := hb1.size; simp at this; omega); have HIR : Hid (w1.heap[w.heap.size]? = some (.cells #[.int .i64 i.op, .int .i64 i.rd, .int .i64 i.a, .int .i64 i.b, .int .i64 i.imm, .int .i64 i.csr, .bool i.aq, .bool i.rl] 24 (0, 0))) := Lib.hid ((hb1.block _ (by simp)).trans (heap_alloc_new w _)); have HB1 : Hid (Below w.heap.size w w1) := Lib.hid (((Below.refl _ _).alloc (Nat.le_refl _) _).trans (hb1.mono (by simp))); have x0 : w1.cell? ⟨w.heap.size, 0, none⟩ = some (.int .i64 i.op) := (by rw [cell_of_row _ _ _ _ _ _ HIR.out]; rfl); have x1 : w1.cell? ⟨w.heap.size, 1, none⟩ = some (.int .i64 i.rd) := (by rw [cell_of_row _ _ _ _ _ _ HIR.out]; rfl); have x2 : w1.cell? ⟨w.heap.size, 2, none⟩ = some (.int .i64 i.a) := (by rw [cell_of_row _ _ _ _ _ _ HIR.out]; rfl); have x3 : w1.cell? ⟨w.heap.size, 3, none⟩ = some (.int .i64 i.b) := (by rw [cell_of_row _ _ _ _ _ _ HIR.out]; rfl); have x4 : w1.cell? ⟨w.heap.size, 4, none⟩ = some (.int .i64 i.imm) := (by rw [cell_of_row _ _ _ _ _ _ HIR.out]; rfl); have x5 : w1.cell? ⟨w.heap.size, 5, none⟩ = some (.int .i64 i.csr) := (by rw [cell_of_row _ _ _ _ _ _ HIR.out]; rfl); have x6 : w1.cell? ⟨w.heap.size, 6, none⟩ = some (.bool i.aq) := (by rw [cell_of_row _ _ _ _ _ _ HIR.out]; rfl); have x7 : w1.cell? ⟨w.heap.size, 7, none⟩ = some (.bool i.rl) := (by rw [cell_of_row _ _ _ _ _ _ HIR.out]; rfl); have HBP : Hid (Below w.heap.size w (w1.alloc (.cells #[.int .i64 I.op, .int .i64 I.rd, .int .i64 I.a, .int .i64 I.b, .int .i64 I.imm, .int .i64 I.csr, .bool I.aq, .bool I.rl] 24))) := Lib.hid (HB1.out.alloc HB1.out.size _); have HNP : Hid ((w1.alloc (.cells #[.int .i64 I.op, .int .i64 I.rd, .int .i64 I.a, .int .i64 I.b, .int .i64 I.imm, .int .i64 I.csr, .bool I.aq, .bool I.rl] 24)).heap[w.heap.size]? = some (.cells #[.int .i64 i.op, .int .i64 i.rd, .int .i64 i.a, .int .i64 i.b, .int .i64 i.imm, .int .i64 i.csr, .bool i.aq, .bool i.rl] 24 (0, 0))) := Lib.hid ((Below.heap_alloc _ _ _ hn1).trans HIR.out); have HMP : Hid ((w1.alloc (.cells #[.int .i64 I.op, .int .i64 I.rd, .int .i64 I.a, .int .i64 I.b, .int .i64 I.imm, .int .i64 I.csr, .bool I.aq, .bool I.rl] 24)).heap[w1.heap.size]? = some (.cells #[.int .i64 I.op, .int .i64 I.rd, .int .i64 I.a, .int .i64 I.b, .int .i64 I.imm, .int .i64 I.csr, .bool I.aq, .bool I.rl] 24 (0, 0))) := Lib.hid (heap_alloc_new w1 _); have hnP : w.heap.size < (w1.alloc (.cells #[.int .i64 I.op, .int .i64 I.rd, .int .i64 I.a, .int .i64 I.b, .int .i64 I.imm, .int .i64 I.csr, .bool I.aq, .bool I.rl] 24)).heap.size := (by rw [World.size_alloc]; omega); have hmP : w1.heap.size < (w1.alloc (.cells #[.int .i64 I.op, .int .i64 I.rd, .int .i64 I.a, .int .i64 I.b, .int .i64 I.imm, .int .i64 I.csr, .bool I.aq, .bool I.rl] 24)).heap.size := (by rw [World.size_alloc]; omega); clear hb1)
    | (go_at_call 13; (with_reducible refine (H2.out _ (HT.out.below HBP.out)).mono ?_); rintro e ww ⟨rfl, hbx⟩; have HB2 := Lib.hid (HBP.out.trans (hbx.mono HBP.out.size)); have HN2 : Hid (ww.heap[w.heap.size]? = some (.cells #[.int .i64 i.op, .int .i64 i.rd, .int .i64 i.a, .int .i64 i.b, .int .i64 i.imm, .int .i64 i.csr, .bool i.aq, .bool i.rl] 24 (0, 0))) := Lib.hid ((hbx.block _ hnP).trans HNP.out); have HM2 : Hid (ww.heap[w1.heap.size]? = some (.cells #[.int .i64 I.op, .int .i64 I.rd, .int .i64 I.a, .int .i64 I.b, .int .i64 I.imm, .int .i64 I.csr, .bool I.aq, .bool I.rl] 24 (0, 0))) := Lib.hid ((hbx.block _ hmP).trans HMP.out); have hn2 := Nat.lt_of_lt_of_le hnP hbx.size; have hm2 := Nat.lt_of_lt_of_le hmP hbx.size; clear hbx))
  have d0 : ww.cell? ⟨w1.heap.size, 0, none⟩ = some (.int .i64 I.op) := by rw [cell_of_row _ _ _ _ _ _ HM2.out]; rfl
  refine wp_region_held_drew (S := fun wx => Below ww.heap.size ww wx) (by kernel_rfl) ((Below.refl _ _).drew) (fun hHeld0 => ?_)
  have HS := Lib.hid hHeld0
  clear hHeld0
  refine takeD (i := 0) (some 22) (v := ?_) rfl rfl (by kernel_rfl) (by kernel_rfl) (by kernel_rfl) (fun _ _ _ h => h) (by rfl) HS.out ?_ ?_
  rotate_left
  · intro wx hSx
    clear hSx
    go_simp
    try (with_reducible rfl)
  simp only [Act.put, List.setIfInBounds_toArray, List.set_cons_zero, List.set_cons_succ]
  refine takeD (i := 1) (some 23) (v := ?_) rfl rfl (by kernel_rfl) (by kernel_rfl) (by kernel_rfl) (fun _ _ _ h => h) (by rfl) HS.out ?_ ?_
  rotate_left
  · intro wx hSx
    clear hSx
    go_simp
    try (with_reducible rfl)
  simp only [Act.put, List.setIfInBounds_toArray, List.set_cons_zero, List.set_cons_succ]
  refine takeD (i := 2) (some 24) (v := ?_) rfl rfl (by kernel_rfl) (by kernel_rfl) (by kernel_rfl) (fun _ _ _ h => h) (by rfl) HS.out ?_ ?_
  rotate_left
  · intro wx hSx
    clear hSx
    go_simp
    try (with_reducible rfl)
  simp only [Act.put, List.setIfInBounds_toArray, List.set_cons_zero, List.set_cons_succ]
  refine takeD (i := 3) (some 25) (v := ?_) rfl rfl (by kernel_rfl) (by kernel_rfl) (by kernel_rfl) (fun _ _ _ h => h) (by rfl) HS.out ?_ ?_
  rotate_left
  · intro wx hSx
    clear hSx
    go_simp
    try (with_reducible rfl)
  simp only [Act.put, List.setIfInBounds_toArray, List.set_cons_zero, List.set_cons_succ]
  refine takeD (i := 4) (some 26) (v := ?_) rfl rfl (by kernel_rfl) (by kernel_rfl) (by kernel_rfl) (fun _ _ _ h => h) (by rfl) HS.out ?_ ?_
  rotate_left
  · intro wx hSx
    clear hSx
    go_simp
    try (with_reducible rfl)
  simp only [Act.put, List.setIfInBounds_toArray, List.set_cons_zero, List.set_cons_succ]
  refine takeD (i := 5) (some 27) (v := ?_) rfl rfl (by kernel_rfl) (by kernel_rfl) (by kernel_rfl) (fun _ _ _ h => h) (by rfl) HS.out ?_ ?_
  rotate_left
  · intro wx hSx
    clear hSx
    go_simp
    try (with_reducible rfl)
  simp only [Act.put, List.setIfInBounds_toArray, List.set_cons_zero, List.set_cons_succ]
  refine takeD (i := 6) (some 28) (v := ?_) rfl rfl (by kernel_rfl) (by kernel_rfl) (by kernel_rfl) (fun _ _ _ h => h) (by rfl) HS.out ?_ ?_
  rotate_left
  · intro wx hSx
    clear hSx
    go_simp
    try (with_reducible rfl)
  simp only [Act.put, List.setIfInBounds_toArray, List.set_cons_zero, List.set_cons_succ]
  refine takeD (i := 7) (some 29) (v := ?_) rfl rfl (by kernel_rfl) (by kernel_rfl) (by kernel_rfl) (fun _ _ _ h => h) (by rfl) HS.out ?_ ?_
  rotate_left
  · intro wx hSx
    clear hSx
    go_simp
    try (with_reducible rfl)
  simp only [Act.put, List.setIfInBounds_toArray, List.set_cons_zero, List.set_cons_succ]
  refine takeD (i := 8) (some 30) (v := ?_) rfl rfl (by kernel_rfl) (by kernel_rfl) (by kernel_rfl) (fun _ _ _ h => h) (by rfl) HS.out ?_ ?_
  rotate_left
  · intro wx hSx
    clear hSx
    go_simp
    try (with_reducible rfl)
  simp only [Act.put, List.setIfInBounds_toArray, List.set_cons_zero, List.set_cons_succ]
  refine takeD (i := 9) (some 31) (v := ?_) rfl rfl (by kernel_rfl) (by kernel_rfl) (by kernel_rfl) (fun _ _ _ h => h) (by rfl) HS.out ?_ ?_
  rotate_left
  · intro wx hSx
    have kc := (hSx.cell (p := ⟨w1.heap.size, 0, none⟩) hm2).trans d0
    clear hSx
    go_simp
    try (with_reducible rfl)
  simp only [Act.put, List.setIfInBounds_toArray, List.set_cons_zero, List.set_cons_succ]
  refine takeD (i := 12) (some 34) (v := ?_) rfl rfl (by kernel_rfl) (by kernel_rfl) (by kernel_rfl) (fun _ _ _ h => h) (by rfl) HS.out ?_ ?_
  rotate_left
  · intro wx hSx
    clear hSx
    go_simp
    try (with_reducible rfl)
  simp only [Act.put, List.setIfInBounds_toArray, List.set_cons_zero, List.set_cons_succ]
  refine takeD (i := 13) (some 35) (v := ?_) rfl rfl (by kernel_rfl) (by kernel_rfl) (by kernel_rfl) (fun _ _ _ h => h) (by rfl) HS.out ?_ ?_
  rotate_left
  · intro wx hSx
    have kc := (hSx.cell (p := ⟨w1.heap.size, 0, none⟩) hm2).trans d0
    clear hSx
    go_simp
    try (with_reducible rfl)
  simp only [Act.put, List.setIfInBounds_toArray, List.set_cons_zero, List.set_cons_succ]
  refine wpAnyH_ready (rs := [10]) (by kernel_rfl) (by simp) ?_
  refine AllReadyH.cons rfl (fun K hK => ?_) AllReadyH.nil
  go_simp
  refine (HNM.out _).mono ?_
  rintro e wn ⟨rfl, hbn⟩
  go_simp
  refine hK.out _ _ ?_ (fun hHeld => ?_)
  · exact (HS.out.trans (hbn.mono HS.out.size))
  clear hHeld hK K
  try simp only [Act.put, List.setIfInBounds_toArray, List.set_cons_zero, List.set_cons_succ]
  replace HS := Lib.hid (HS.out.trans (hbn.mono HS.out.size))
  clear hbn
  refine wpAnyH_ready (rs := [11]) (by kernel_rfl) (by simp) ?_
  refine AllReadyH.cons rfl (fun K hK => ?_) AllReadyH.nil
  go_simp
  refine (HOP.out _).mono ?_
  rintro e wo ⟨rfl, hbo⟩
  go_simp
  refine hK.out _ _ ?_ (fun hHeld => ?_)
  · exact (HS.out.trans (hbo.mono HS.out.size))
  clear hHeld hK K
  try simp only [Act.put, List.setIfInBounds_toArray, List.set_cons_zero, List.set_cons_succ]
  replace HS := Lib.hid (HS.out.trans (hbo.mono HS.out.size))
  clear hbo
  refine takeD (i := 14) (some 36) (v := ?_) rfl rfl (by kernel_rfl) (by kernel_rfl) (by kernel_rfl) (fun _ _ _ h => h) (by rfl) HS.out ?_ ?_
  rotate_left
  · intro wx hSx
    clear hSx
    go_simp
    try (with_reducible rfl)
  simp only [Act.put, List.setIfInBounds_toArray, List.set_cons_zero, List.set_cons_succ]
  refine takeD (i := 15) (some 37) (v := ?_) rfl rfl (by kernel_rfl) (by kernel_rfl) (by kernel_rfl) (fun _ _ _ h => h) (by rfl) HS.out ?_ ?_
  rotate_left
  · intro wx hSx
    clear hSx
    go_simp
    try (with_reducible rfl)
  simp only [Act.put, List.setIfInBounds_toArray, List.set_cons_zero, List.set_cons_succ]
  refine wpAnyH_done (by kernel_rfl) ?_ _
  have HBQ := Lib.hid (HB2.out.trans (HS.out.mono HB2.out.size))
  have HNQ := Lib.hid ((HS.out.block _ hn2).trans HN2.out)
  have HMQ := Lib.hid ((HS.out.block _ hm2).trans HM2.out)
  have hnQ := Nat.lt_of_lt_of_le hn2 HS.out.size
  have hmQ := Nat.lt_of_lt_of_le hm2 HS.out.size
  have v0 := (cell_of_row _ w.heap.size 0 _ _ _ HNQ.out)
  have v1 := (cell_of_row _ w.heap.size 1 _ _ _ HNQ.out)
  have v2 := (cell_of_row _ w.heap.size 2 _ _ _ HNQ.out)
  have v3 := (cell_of_row _ w.heap.size 3 _ _ _ HNQ.out)
  have v4 := (cell_of_row _ w.heap.size 4 _ _ _ HNQ.out)
  have v5 := (cell_of_row _ w.heap.size 5 _ _ _ HNQ.out)
  have v6 := (cell_of_row _ w.heap.size 6 _ _ _ HNQ.out)
  have v7 := (cell_of_row _ w.heap.size 7 _ _ _ HNQ.out)
  go_wp2_with (first
    | (go_at_call 13; (with_reducible refine (H3.out _ (HT.out.below HBQ.out)).mono ?_); rintro e w4 ⟨rfl, hbx⟩; have HB4 := Lib.hid (HBQ.out.trans (hbx.mono HBQ.out.size)); have HN4 : Hid (w4.heap[w.heap.size]? = some (.cells #[.int .i64 i.op, .int .i64 i.rd, .int .i64 i.a, .int .i64 i.b, .int .i64 i.imm, .int .i64 i.csr, .bool i.aq, .bool i.rl] 24 (0, 0))) := Lib.hid ((hbx.block _ hnQ).trans HNQ.out); have HM4 : Hid (w4.heap[w1.heap.size]? = some (.cells #[.int .i64 I.op, .int .i64 I.rd, .int .i64 I.a, .int .i64 I.b, .int .i64 I.imm, .int .i64 I.csr, .bool I.aq, .bool I.rl] 24 (0, 0))) := Lib.hid ((hbx.block _ hmQ).trans HMQ.out); have hn4 := Nat.lt_of_lt_of_le hnQ hbx.size; have hm4 := Nat.lt_of_lt_of_le hmQ hbx.size; clear hbx)
    | (go_at_call 12; (with_reducible refine (wakes_any _ (HT.out.below HB4.out)).mono ?_); rintro e w6 ⟨rfl, hb6⟩; have HB6 := Lib.hid (HB4.out.trans (hb6.mono HB4.out.size)); clear hb6))
  go_ret
  exact ⟨rfl, HB6.out⟩

set_option maxHeartbeats 4000000 in
theorem back_some_good (x : Int) (i : Ins) (w : World) (w0 : In32 x) (h1 : decB x = true) (h2 : encE i = 0) (ht : Tab w) :
    Calls Tryd.prog 7 #[.int .u32 x, .agg #[.int .i64 i.op, .int .i64 i.rd, .int .i64 i.a, .int .i64 i.b, .int .i64 i.imm, .int .i64 i.csr, .bool i.aq, .bool i.rl]] w fun e w' => e = .returned (.bool true) ∧ Below w.heap.size w w' := by
  have H1 : Hid (∀ w, Tab w → Calls Tryd.prog 10 #[.int .u32 x] w fun e w' => e = .returned (.tuple #[.agg #[.int .i64 (decI x).op, .int .i64 (decI x).rd, .int .i64 (decI x).a, .int .i64 (decI x).b, .int .i64 (decI x).imm, .int .i64 (decI x).csr, .bool (decI x).aq, .bool (decI x).rl], .bool true]) ∧ Below w.heap.size w w') := Lib.hid fun w ht => by have h := decode_is x w ht; rw [h1] at h; exact h
  have H2 : Hid (∀ w, Tab w → Calls Tryd.prog 13 #[.agg #[.int .i64 (decI x).op, .int .i64 (decI x).rd, .int .i64 (decI x).a, .int .i64 (decI x).b, .int .i64 (decI x).imm, .int .i64 (decI x).csr, .bool (decI x).aq, .bool (decI x).rl]] w fun e w' => e = .returned (.tuple #[.int .u32 x, .int .i64 0]) ∧ Below w.heap.size w w') := Lib.hid fun w ht => by have h := encode_is (decI x) w ht; rw [(enc_dec w0 h1).1, (enc_dec w0 h1).2] at h; exact h
  have HNM := Lib.hid fun w => name_is (decI x).op w
  have HOP := Lib.hid fun w => name_op h1 w
  have H3 : Hid (∀ w, Tab w → Calls Tryd.prog 13 #[.agg #[.int .i64 i.op, .int .i64 i.rd, .int .i64 i.a, .int .i64 i.b, .int .i64 i.imm, .int .i64 i.csr, .bool i.aq, .bool i.rl]] w fun e w' => e = .returned (.tuple #[.int .u32 (encW i), .int .i64 0]) ∧ Below w.heap.size w w') := Lib.hid fun w ht => by have h := encode_is i w ht; rw [h2] at h; exact h
  have H4 : Hid (∀ w, Tab w → Calls Tryd.prog 10 #[.int .u32 (encW i)] w fun e w' => e = .returned (.tuple #[.agg #[.int .i64 i.op, .int .i64 i.rd, .int .i64 i.a, .int .i64 i.b, .int .i64 i.imm, .int .i64 i.csr, .bool i.aq, .bool i.rl], .bool true]) ∧ Below w.heap.size w w') := Lib.hid fun w ht => by have h := decode_is (encW i) w ht; rw [(dec_enc h2).1, (dec_enc h2).2.1] at h; exact h
  generalize encW i = V at *
  have HT := Lib.hid ht
  clear ht h1 h2 w0
  generalize decI x = I at *
  generalize nameF I.op = nm at *
  go_enter Tryd.func7, Tryd.ntmps7
  go_wp2_with (first
    | (go_at_call 10; (with_reducible refine (H1.out _ (HT.out.below ((Below.refl _ _).alloc (Nat.le_refl _) (.cells #[.int .i64 i.op, .int .i64 i.rd, .int .i64 i.a, .int .i64 i.b, .int .i64 i.imm, .int .i64 i.csr, .bool i.aq, .bool i.rl] 24)))).mono ?_); rintro e w1 ⟨rfl, hb1⟩; have hn1 : w.heap.size < w1.heap.size := (by have := hb1.size; simp at this; omega); have HIR : Hid (w1.heap[w.heap.size]? = some (.cells #[.int .i64 i.op, .int .i64 i.rd, .int .i64 i.a, .int .i64 i.b, .int .i64 i.imm, .int .i64 i.csr, .bool i.aq, .bool i.rl] 24 (0, 0))) := Lib.hid ((hb1.block _ (by simp)).trans (heap_alloc_new w _)); have HB1 : Hid (Below w.heap.size w w1) := Lib.hid (((Below.refl _ _).alloc (Nat.le_refl _) _).trans (hb1.mono (by simp))); have x0 : w1.cell? ⟨w.heap.size, 0, none⟩ = some (.int .i64 i.op) := (by rw [cell_of_row _ _ _ _ _ _ HIR.out]; rfl); have x1 : w1.cell? ⟨w.heap.size, 1, none⟩ = some (.int .i64 i.rd) := (by rw [cell_of_row _ _ _ _ _ _ HIR.out]; rfl); have x2 : w1.cell? ⟨w.heap.size, 2, none⟩ = some (.int .i64 i.a) := (by rw [cell_of_row _ _ _ _ _ _ HIR.out]; rfl); have x3 : w1.cell? ⟨w.heap.size, 3, none⟩ = some (.int .i64 i.b) := (by rw [cell_of_row _ _ _ _ _ _ HIR.out]; rfl); have x4 : w1.cell? ⟨w.heap.size, 4, none⟩ = some (.int .i64 i.imm) := (by rw [cell_of_row _ _ _ _ _ _ HIR.out]; rfl); have x5 : w1.cell? ⟨w.heap.size, 5, none⟩ = some (.int .i64 i.csr) := (by rw [cell_of_row _ _ _ _ _ _ HIR.out]; rfl); have x6 : w1.cell? ⟨w.heap.size, 6, none⟩ = some (.bool i.aq) := (by rw [cell_of_row _ _ _ _ _ _ HIR.out]; rfl); have x7 : w1.cell? ⟨w.heap.size, 7, none⟩ = some (.bool i.rl) := (by rw [cell_of_row _ _ _ _ _ _ HIR.out]; rfl); have HBP : Hid (Below w.heap.size w (w1.alloc (.cells #[.int .i64 I.op, .int .i64 I.rd, .int .i64 I.a, .int .i64 I.b, .int .i64 I.imm, .int .i64 I.csr, .bool I.aq, .bool I.rl] 24))) := Lib.hid (HB1.out.alloc HB1.out.size _); have HNP : Hid ((w1.alloc (.cells #[.int .i64 I.op, .int .i64 I.rd, .int .i64 I.a, .int .i64 I.b, .int .i64 I.imm, .int .i64 I.csr, .bool I.aq, .bool I.rl] 24)).heap[w.heap.size]? = some (.cells #[.int .i64 i.op, .int .i64 i.rd, .int .i64 i.a, .int .i64 i.b, .int .i64 i.imm, .int .i64 i.csr, .bool i.aq, .bool i.rl] 24 (0, 0))) := Lib.hid ((Below.heap_alloc _ _ _ hn1).trans HIR.out); have HMP : Hid ((w1.alloc (.cells #[.int .i64 I.op, .int .i64 I.rd, .int .i64 I.a, .int .i64 I.b, .int .i64 I.imm, .int .i64 I.csr, .bool I.aq, .bool I.rl] 24)).heap[w1.heap.size]? = some (.cells #[.int .i64 I.op, .int .i64 I.rd, .int .i64 I.a, .int .i64 I.b, .int .i64 I.imm, .int .i64 I.csr, .bool I.aq, .bool I.rl] 24 (0, 0))) := Lib.hid (heap_alloc_new w1 _); have hnP : w.heap.size < (w1.alloc (.cells #[.int .i64 I.op, .int .i64 I.rd, .int .i64 I.a, .int .i64 I.b, .int .i64 I.imm, .int .i64 I.csr, .bool I.aq, .bool I.rl] 24)).heap.size := (by rw [World.size_alloc]; omega); have hmP : w1.heap.size < (w1.alloc (.cells #[.int .i64 I.op, .int .i64 I.rd, .int .i64 I.a, .int .i64 I.b, .int .i64 I.imm, .int .i64 I.csr, .bool I.aq, .bool I.rl] 24)).heap.size := (by rw [World.size_alloc]; omega); clear hb1)
    | (go_at_call 13; (with_reducible refine (H2.out _ (HT.out.below HBP.out)).mono ?_); rintro e ww ⟨rfl, hbx⟩; have HB2 := Lib.hid (HBP.out.trans (hbx.mono HBP.out.size)); have HN2 : Hid (ww.heap[w.heap.size]? = some (.cells #[.int .i64 i.op, .int .i64 i.rd, .int .i64 i.a, .int .i64 i.b, .int .i64 i.imm, .int .i64 i.csr, .bool i.aq, .bool i.rl] 24 (0, 0))) := Lib.hid ((hbx.block _ hnP).trans HNP.out); have HM2 : Hid (ww.heap[w1.heap.size]? = some (.cells #[.int .i64 I.op, .int .i64 I.rd, .int .i64 I.a, .int .i64 I.b, .int .i64 I.imm, .int .i64 I.csr, .bool I.aq, .bool I.rl] 24 (0, 0))) := Lib.hid ((hbx.block _ hmP).trans HMP.out); have hn2 := Nat.lt_of_lt_of_le hnP hbx.size; have hm2 := Nat.lt_of_lt_of_le hmP hbx.size; clear hbx))
  have d0 : ww.cell? ⟨w1.heap.size, 0, none⟩ = some (.int .i64 I.op) := by rw [cell_of_row _ _ _ _ _ _ HM2.out]; rfl
  refine wp_region_held_drew (S := fun wx => Below ww.heap.size ww wx) (by kernel_rfl) ((Below.refl _ _).drew) (fun hHeld0 => ?_)
  have HS := Lib.hid hHeld0
  clear hHeld0
  refine takeD (i := 0) (some 22) (v := ?_) rfl rfl (by kernel_rfl) (by kernel_rfl) (by kernel_rfl) (fun _ _ _ h => h) (by rfl) HS.out ?_ ?_
  rotate_left
  · intro wx hSx
    clear hSx
    go_simp
    try (with_reducible rfl)
  simp only [Act.put, List.setIfInBounds_toArray, List.set_cons_zero, List.set_cons_succ]
  refine takeD (i := 1) (some 23) (v := ?_) rfl rfl (by kernel_rfl) (by kernel_rfl) (by kernel_rfl) (fun _ _ _ h => h) (by rfl) HS.out ?_ ?_
  rotate_left
  · intro wx hSx
    clear hSx
    go_simp
    try (with_reducible rfl)
  simp only [Act.put, List.setIfInBounds_toArray, List.set_cons_zero, List.set_cons_succ]
  refine takeD (i := 2) (some 24) (v := ?_) rfl rfl (by kernel_rfl) (by kernel_rfl) (by kernel_rfl) (fun _ _ _ h => h) (by rfl) HS.out ?_ ?_
  rotate_left
  · intro wx hSx
    clear hSx
    go_simp
    try (with_reducible rfl)
  simp only [Act.put, List.setIfInBounds_toArray, List.set_cons_zero, List.set_cons_succ]
  refine takeD (i := 3) (some 25) (v := ?_) rfl rfl (by kernel_rfl) (by kernel_rfl) (by kernel_rfl) (fun _ _ _ h => h) (by rfl) HS.out ?_ ?_
  rotate_left
  · intro wx hSx
    clear hSx
    go_simp
    try (with_reducible rfl)
  simp only [Act.put, List.setIfInBounds_toArray, List.set_cons_zero, List.set_cons_succ]
  refine takeD (i := 4) (some 26) (v := ?_) rfl rfl (by kernel_rfl) (by kernel_rfl) (by kernel_rfl) (fun _ _ _ h => h) (by rfl) HS.out ?_ ?_
  rotate_left
  · intro wx hSx
    clear hSx
    go_simp
    try (with_reducible rfl)
  simp only [Act.put, List.setIfInBounds_toArray, List.set_cons_zero, List.set_cons_succ]
  refine takeD (i := 5) (some 27) (v := ?_) rfl rfl (by kernel_rfl) (by kernel_rfl) (by kernel_rfl) (fun _ _ _ h => h) (by rfl) HS.out ?_ ?_
  rotate_left
  · intro wx hSx
    clear hSx
    go_simp
    try (with_reducible rfl)
  simp only [Act.put, List.setIfInBounds_toArray, List.set_cons_zero, List.set_cons_succ]
  refine takeD (i := 6) (some 28) (v := ?_) rfl rfl (by kernel_rfl) (by kernel_rfl) (by kernel_rfl) (fun _ _ _ h => h) (by rfl) HS.out ?_ ?_
  rotate_left
  · intro wx hSx
    clear hSx
    go_simp
    try (with_reducible rfl)
  simp only [Act.put, List.setIfInBounds_toArray, List.set_cons_zero, List.set_cons_succ]
  refine takeD (i := 7) (some 29) (v := ?_) rfl rfl (by kernel_rfl) (by kernel_rfl) (by kernel_rfl) (fun _ _ _ h => h) (by rfl) HS.out ?_ ?_
  rotate_left
  · intro wx hSx
    clear hSx
    go_simp
    try (with_reducible rfl)
  simp only [Act.put, List.setIfInBounds_toArray, List.set_cons_zero, List.set_cons_succ]
  refine takeD (i := 8) (some 30) (v := ?_) rfl rfl (by kernel_rfl) (by kernel_rfl) (by kernel_rfl) (fun _ _ _ h => h) (by rfl) HS.out ?_ ?_
  rotate_left
  · intro wx hSx
    clear hSx
    go_simp
    try (with_reducible rfl)
  simp only [Act.put, List.setIfInBounds_toArray, List.set_cons_zero, List.set_cons_succ]
  refine takeD (i := 9) (some 31) (v := ?_) rfl rfl (by kernel_rfl) (by kernel_rfl) (by kernel_rfl) (fun _ _ _ h => h) (by rfl) HS.out ?_ ?_
  rotate_left
  · intro wx hSx
    have kc := (hSx.cell (p := ⟨w1.heap.size, 0, none⟩) hm2).trans d0
    clear hSx
    go_simp
    try (with_reducible rfl)
  simp only [Act.put, List.setIfInBounds_toArray, List.set_cons_zero, List.set_cons_succ]
  refine takeD (i := 12) (some 34) (v := ?_) rfl rfl (by kernel_rfl) (by kernel_rfl) (by kernel_rfl) (fun _ _ _ h => h) (by rfl) HS.out ?_ ?_
  rotate_left
  · intro wx hSx
    clear hSx
    go_simp
    try (with_reducible rfl)
  simp only [Act.put, List.setIfInBounds_toArray, List.set_cons_zero, List.set_cons_succ]
  refine takeD (i := 13) (some 35) (v := ?_) rfl rfl (by kernel_rfl) (by kernel_rfl) (by kernel_rfl) (fun _ _ _ h => h) (by rfl) HS.out ?_ ?_
  rotate_left
  · intro wx hSx
    have kc := (hSx.cell (p := ⟨w1.heap.size, 0, none⟩) hm2).trans d0
    clear hSx
    go_simp
    try (with_reducible rfl)
  simp only [Act.put, List.setIfInBounds_toArray, List.set_cons_zero, List.set_cons_succ]
  refine wpAnyH_ready (rs := [10]) (by kernel_rfl) (by simp) ?_
  refine AllReadyH.cons rfl (fun K hK => ?_) AllReadyH.nil
  go_simp
  refine (HNM.out _).mono ?_
  rintro e wn ⟨rfl, hbn⟩
  go_simp
  refine hK.out _ _ ?_ (fun hHeld => ?_)
  · exact (HS.out.trans (hbn.mono HS.out.size))
  clear hHeld hK K
  try simp only [Act.put, List.setIfInBounds_toArray, List.set_cons_zero, List.set_cons_succ]
  replace HS := Lib.hid (HS.out.trans (hbn.mono HS.out.size))
  clear hbn
  refine wpAnyH_ready (rs := [11]) (by kernel_rfl) (by simp) ?_
  refine AllReadyH.cons rfl (fun K hK => ?_) AllReadyH.nil
  go_simp
  refine (HOP.out _).mono ?_
  rintro e wo ⟨rfl, hbo⟩
  go_simp
  refine hK.out _ _ ?_ (fun hHeld => ?_)
  · exact (HS.out.trans (hbo.mono HS.out.size))
  clear hHeld hK K
  try simp only [Act.put, List.setIfInBounds_toArray, List.set_cons_zero, List.set_cons_succ]
  replace HS := Lib.hid (HS.out.trans (hbo.mono HS.out.size))
  clear hbo
  refine takeD (i := 14) (some 36) (v := ?_) rfl rfl (by kernel_rfl) (by kernel_rfl) (by kernel_rfl) (fun _ _ _ h => h) (by rfl) HS.out ?_ ?_
  rotate_left
  · intro wx hSx
    clear hSx
    go_simp
    try (with_reducible rfl)
  simp only [Act.put, List.setIfInBounds_toArray, List.set_cons_zero, List.set_cons_succ]
  refine takeD (i := 15) (some 37) (v := ?_) rfl rfl (by kernel_rfl) (by kernel_rfl) (by kernel_rfl) (fun _ _ _ h => h) (by rfl) HS.out ?_ ?_
  rotate_left
  · intro wx hSx
    clear hSx
    go_simp
    try (with_reducible rfl)
  simp only [Act.put, List.setIfInBounds_toArray, List.set_cons_zero, List.set_cons_succ]
  refine wpAnyH_done (by kernel_rfl) ?_ _
  have HBQ := Lib.hid (HB2.out.trans (HS.out.mono HB2.out.size))
  have HNQ := Lib.hid ((HS.out.block _ hn2).trans HN2.out)
  have HMQ := Lib.hid ((HS.out.block _ hm2).trans HM2.out)
  have hnQ := Nat.lt_of_lt_of_le hn2 HS.out.size
  have hmQ := Nat.lt_of_lt_of_le hm2 HS.out.size
  have v0 := (cell_of_row _ w.heap.size 0 _ _ _ HNQ.out)
  have v1 := (cell_of_row _ w.heap.size 1 _ _ _ HNQ.out)
  have v2 := (cell_of_row _ w.heap.size 2 _ _ _ HNQ.out)
  have v3 := (cell_of_row _ w.heap.size 3 _ _ _ HNQ.out)
  have v4 := (cell_of_row _ w.heap.size 4 _ _ _ HNQ.out)
  have v5 := (cell_of_row _ w.heap.size 5 _ _ _ HNQ.out)
  have v6 := (cell_of_row _ w.heap.size 6 _ _ _ HNQ.out)
  have v7 := (cell_of_row _ w.heap.size 7 _ _ _ HNQ.out)
  go_wp2_with (first
    | (go_at_call 13; (with_reducible refine (H3.out _ (HT.out.below HBQ.out)).mono ?_); rintro e w4 ⟨rfl, hbx⟩; have HB4 := Lib.hid (HBQ.out.trans (hbx.mono HBQ.out.size)); have HN4 : Hid (w4.heap[w.heap.size]? = some (.cells #[.int .i64 i.op, .int .i64 i.rd, .int .i64 i.a, .int .i64 i.b, .int .i64 i.imm, .int .i64 i.csr, .bool i.aq, .bool i.rl] 24 (0, 0))) := Lib.hid ((hbx.block _ hnQ).trans HNQ.out); have HM4 : Hid (w4.heap[w1.heap.size]? = some (.cells #[.int .i64 I.op, .int .i64 I.rd, .int .i64 I.a, .int .i64 I.b, .int .i64 I.imm, .int .i64 I.csr, .bool I.aq, .bool I.rl] 24 (0, 0))) := Lib.hid ((hbx.block _ hmQ).trans HMQ.out); have hn4 := Nat.lt_of_lt_of_le hnQ hbx.size; have hm4 := Nat.lt_of_lt_of_le hmQ hbx.size; clear hbx)
    | (go_at_call 10; (with_reducible refine (H4.out _ (HT.out.below HB4.out)).mono ?_); rintro e w5 ⟨rfl, hbx⟩; have HB5 := Lib.hid (HB4.out.trans (hbx.mono HB4.out.size)); have HN5 : Hid (w5.heap[w.heap.size]? = some (.cells #[.int .i64 i.op, .int .i64 i.rd, .int .i64 i.a, .int .i64 i.b, .int .i64 i.imm, .int .i64 i.csr, .bool i.aq, .bool i.rl] 24 (0, 0))) := Lib.hid ((hbx.block _ hn4).trans HN4.out); have HM5 : Hid (w5.heap[w1.heap.size]? = some (.cells #[.int .i64 I.op, .int .i64 I.rd, .int .i64 I.a, .int .i64 I.b, .int .i64 I.imm, .int .i64 I.csr, .bool I.aq, .bool I.rl] 24 (0, 0))) := Lib.hid ((hbx.block _ hm4).trans HM4.out); have hn5 := Nat.lt_of_lt_of_le hn4 hbx.size; have hm5 := Nat.lt_of_lt_of_le hm4 hbx.size; have y0 : (w5.setRow w1.heap.size #[.int .i64 i.op, .int .i64 i.rd, .int .i64 i.a, .int .i64 i.b, .int .i64 i.imm, .int .i64 i.csr, .bool i.aq, .bool i.rl]).cell? ⟨w1.heap.size, 0, none⟩ = some (.int .i64 i.op) := (by rw [cell_of_row _ _ _ _ _ _ (setRow_heap _ _ _ _ _ _ HM5.out)]; rfl); have y1 : (w5.setRow w1.heap.size #[.int .i64 i.op, .int .i64 i.rd, .int .i64 i.a, .int .i64 i.b, .int .i64 i.imm, .int .i64 i.csr, .bool i.aq, .bool i.rl]).cell? ⟨w1.heap.size, 1, none⟩ = some (.int .i64 i.rd) := (by rw [cell_of_row _ _ _ _ _ _ (setRow_heap _ _ _ _ _ _ HM5.out)]; rfl); have y2 : (w5.setRow w1.heap.size #[.int .i64 i.op, .int .i64 i.rd, .int .i64 i.a, .int .i64 i.b, .int .i64 i.imm, .int .i64 i.csr, .bool i.aq, .bool i.rl]).cell? ⟨w1.heap.size, 2, none⟩ = some (.int .i64 i.a) := (by rw [cell_of_row _ _ _ _ _ _ (setRow_heap _ _ _ _ _ _ HM5.out)]; rfl); have y3 : (w5.setRow w1.heap.size #[.int .i64 i.op, .int .i64 i.rd, .int .i64 i.a, .int .i64 i.b, .int .i64 i.imm, .int .i64 i.csr, .bool i.aq, .bool i.rl]).cell? ⟨w1.heap.size, 3, none⟩ = some (.int .i64 i.b) := (by rw [cell_of_row _ _ _ _ _ _ (setRow_heap _ _ _ _ _ _ HM5.out)]; rfl); have y4 : (w5.setRow w1.heap.size #[.int .i64 i.op, .int .i64 i.rd, .int .i64 i.a, .int .i64 i.b, .int .i64 i.imm, .int .i64 i.csr, .bool i.aq, .bool i.rl]).cell? ⟨w1.heap.size, 4, none⟩ = some (.int .i64 i.imm) := (by rw [cell_of_row _ _ _ _ _ _ (setRow_heap _ _ _ _ _ _ HM5.out)]; rfl); have y5 : (w5.setRow w1.heap.size #[.int .i64 i.op, .int .i64 i.rd, .int .i64 i.a, .int .i64 i.b, .int .i64 i.imm, .int .i64 i.csr, .bool i.aq, .bool i.rl]).cell? ⟨w1.heap.size, 5, none⟩ = some (.int .i64 i.csr) := (by rw [cell_of_row _ _ _ _ _ _ (setRow_heap _ _ _ _ _ _ HM5.out)]; rfl); have y6 : (w5.setRow w1.heap.size #[.int .i64 i.op, .int .i64 i.rd, .int .i64 i.a, .int .i64 i.b, .int .i64 i.imm, .int .i64 i.csr, .bool i.aq, .bool i.rl]).cell? ⟨w1.heap.size, 6, none⟩ = some (.bool i.aq) := (by rw [cell_of_row _ _ _ _ _ _ (setRow_heap _ _ _ _ _ _ HM5.out)]; rfl); have y7 : (w5.setRow w1.heap.size #[.int .i64 i.op, .int .i64 i.rd, .int .i64 i.a, .int .i64 i.b, .int .i64 i.imm, .int .i64 i.csr, .bool i.aq, .bool i.rl]).cell? ⟨w1.heap.size, 7, none⟩ = some (.bool i.rl) := (by rw [cell_of_row _ _ _ _ _ _ (setRow_heap _ _ _ _ _ _ HM5.out)]; rfl); have z0 : (w5.setRow w1.heap.size #[.int .i64 i.op, .int .i64 i.rd, .int .i64 i.a, .int .i64 i.b, .int .i64 i.imm, .int .i64 i.csr, .bool i.aq, .bool i.rl]).cell? ⟨w.heap.size, 0, none⟩ = some (.int .i64 i.op) := (by rw [cell_of_row _ _ _ _ _ _ ((setRow_other w5 _ _ _ (by omega)).trans HN5.out)]; rfl); have z1 : (w5.setRow w1.heap.size #[.int .i64 i.op, .int .i64 i.rd, .int .i64 i.a, .int .i64 i.b, .int .i64 i.imm, .int .i64 i.csr, .bool i.aq, .bool i.rl]).cell? ⟨w.heap.size, 1, none⟩ = some (.int .i64 i.rd) := (by rw [cell_of_row _ _ _ _ _ _ ((setRow_other w5 _ _ _ (by omega)).trans HN5.out)]; rfl); have z2 : (w5.setRow w1.heap.size #[.int .i64 i.op, .int .i64 i.rd, .int .i64 i.a, .int .i64 i.b, .int .i64 i.imm, .int .i64 i.csr, .bool i.aq, .bool i.rl]).cell? ⟨w.heap.size, 2, none⟩ = some (.int .i64 i.a) := (by rw [cell_of_row _ _ _ _ _ _ ((setRow_other w5 _ _ _ (by omega)).trans HN5.out)]; rfl); have z3 : (w5.setRow w1.heap.size #[.int .i64 i.op, .int .i64 i.rd, .int .i64 i.a, .int .i64 i.b, .int .i64 i.imm, .int .i64 i.csr, .bool i.aq, .bool i.rl]).cell? ⟨w.heap.size, 3, none⟩ = some (.int .i64 i.b) := (by rw [cell_of_row _ _ _ _ _ _ ((setRow_other w5 _ _ _ (by omega)).trans HN5.out)]; rfl); have z4 : (w5.setRow w1.heap.size #[.int .i64 i.op, .int .i64 i.rd, .int .i64 i.a, .int .i64 i.b, .int .i64 i.imm, .int .i64 i.csr, .bool i.aq, .bool i.rl]).cell? ⟨w.heap.size, 4, none⟩ = some (.int .i64 i.imm) := (by rw [cell_of_row _ _ _ _ _ _ ((setRow_other w5 _ _ _ (by omega)).trans HN5.out)]; rfl); have z5 : (w5.setRow w1.heap.size #[.int .i64 i.op, .int .i64 i.rd, .int .i64 i.a, .int .i64 i.b, .int .i64 i.imm, .int .i64 i.csr, .bool i.aq, .bool i.rl]).cell? ⟨w.heap.size, 5, none⟩ = some (.int .i64 i.csr) := (by rw [cell_of_row _ _ _ _ _ _ ((setRow_other w5 _ _ _ (by omega)).trans HN5.out)]; rfl); have z6 : (w5.setRow w1.heap.size #[.int .i64 i.op, .int .i64 i.rd, .int .i64 i.a, .int .i64 i.b, .int .i64 i.imm, .int .i64 i.csr, .bool i.aq, .bool i.rl]).cell? ⟨w.heap.size, 6, none⟩ = some (.bool i.aq) := (by rw [cell_of_row _ _ _ _ _ _ ((setRow_other w5 _ _ _ (by omega)).trans HN5.out)]; rfl); have z7 : (w5.setRow w1.heap.size #[.int .i64 i.op, .int .i64 i.rd, .int .i64 i.a, .int .i64 i.b, .int .i64 i.imm, .int .i64 i.csr, .bool i.aq, .bool i.rl]).cell? ⟨w.heap.size, 7, none⟩ = some (.bool i.rl) := (by rw [cell_of_row _ _ _ _ _ _ ((setRow_other w5 _ _ _ (by omega)).trans HN5.out)]; rfl); clear hbx)
    | (refine wpList_store_row rfl _ _ _ rfl w1.heap.size _ rfl rfl 24 _ HM5.out size_ins rfl (by simp [Value.oneCell']) ?_)
    | (go_at_call 12; (with_reducible refine (wakes_any _ (HT.out.below (below_setRow HB5.out (Nat.le_of_lt hn1) _))).mono ?_); rintro e w6 ⟨rfl, hb6⟩; have HB6 := Lib.hid ((below_setRow HB5.out (Nat.le_of_lt hn1) _).trans (hb6.mono (below_setRow HB5.out (Nat.le_of_lt hn1) _).size)); clear hb6))
  go_ret
  exact ⟨rfl, HB6.out⟩
theorem decodeBack_walk (x : Int) (i : Ins) (w : World) (w0 : In32 x) (ht : Tab w) :
    Calls Tryd.prog 7 #[.int .u32 x, .agg #[.int .i64 i.op, .int .i64 i.rd, .int .i64 i.a, .int .i64 i.b, .int .i64 i.imm, .int .i64 i.csr, .bool i.aq, .bool i.rl]] w fun e w' => e = .returned (.bool true) ∧ Below w.heap.size w w' := by
  cases h1 : decB x <;> by_cases h2 : encE i = 0
  · exact back_none_good x i w w0 h1 h2 ht
  · exact back_none_bad x i w w0 h1 h2 ht
  · exact back_some_good x i w w0 h1 h2 ht
  · exact back_some_bad x i w w0 h1 h2 ht

end Go.Proofs.YtehlihhnkojjeaaDoor
