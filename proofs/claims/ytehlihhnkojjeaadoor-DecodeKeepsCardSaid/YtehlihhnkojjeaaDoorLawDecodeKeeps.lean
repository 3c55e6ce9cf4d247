/- Layer 9: the walk of DecodeKeeps. -/
import Derived.Test.YtehlihhnkojjeaaDoorDv
namespace Go.Proofs.YtehlihhnkojjeaaDoor
open Go.RowKit
set_option linter.unusedVariables false
set_option maxRecDepth 100000

set_option maxHeartbeats 2000000 in
theorem keeps_none (x rd a b : Int) (w : World) (w1 : 0 ≤ rd ∧ rd < 256) (w2 : 0 ≤ a ∧ a < 256) (w3 : 0 ≤ b ∧ b < 256) (h1 : decB x = false) (ht : Tab w) :
    Calls Tryd.prog 9 #[.int .u32 x, .int .u8 rd, .int .u8 a, .int .u8 b] w fun e w' => e = .returned (.bool true) ∧ Below w.heap.size w w' := by
  have H1 : Hid (∀ w, Tab w → Calls Tryd.prog 10 #[.int .u32 x] w fun e w' => e = .returned (.tuple #[.agg #[.int .i64 (decI x).op, .int .i64 (decI x).rd, .int .i64 (decI x).a, .int .i64 (decI x).b, .int .i64 (decI x).imm, .int .i64 (decI x).csr, .bool (decI x).aq, .bool (decI x).rl], .bool false]) ∧ Below w.heap.size w w') := Lib.hid fun w ht => by have h := decode_is x w ht; rw [h1] at h; exact h
  have HT := Lib.hid ht
  obtain ⟨r0, r1⟩ := w1
  obtain ⟨a0, a1⟩ := w2
  obtain ⟨b0, b1⟩ := w3
  clear ht h1
  generalize decI x = I at *
  go_enter Tryd.func9, Tryd.ntmps9
  go_wp2_with (first
    | (go_at_call 10; (with_reducible refine (H1.out _ HT.out).mono ?_); rintro e w1 ⟨rfl, hb1⟩; have HB1 := Lib.hid (hb1.alloc hb1.size (.cells #[.int .i64 I.op, .int .i64 I.rd, .int .i64 I.a, .int .i64 I.b, .int .i64 I.imm, .int .i64 I.csr, .bool I.aq, .bool I.rl] 24)); clear hb1)
    | (go_at_call 12; (with_reducible refine (wakes_any _ (HT.out.below HB1.out)).mono ?_); rintro e w5 ⟨rfl, hb5⟩; have HB5 := Lib.hid (HB1.out.trans (hb5.mono HB1.out.size)); clear hb5))
  go_ret
  exact ⟨rfl, HB5.out⟩

set_option maxHeartbeats 2000000 in
theorem keeps_bad (x rd a b : Int) (w : World) (w1 : 0 ≤ rd ∧ rd < 256) (w2 : 0 ≤ a ∧ a < 256) (w3 : 0 ≤ b ∧ b < 256) (h1 : decB x = true) (h2 : ¬ encE (Ins.mk (decI x).op (rd % 32) (a % 32) (b % 32) (decI x).imm (decI x).csr (decI x).aq (decI x).rl) = 0) (ht : Tab w) :
    Calls Tryd.prog 9 #[.int .u32 x, .int .u8 rd, .int .u8 a, .int .u8 b] w fun e w' => e = .returned (.bool true) ∧ Below w.heap.size w w' := by
  have H1 : Hid (∀ w, Tab w → Calls Tryd.prog 10 #[.int .u32 x] w fun e w' => e = .returned (.tuple #[.agg #[.int .i64 (decI x).op, .int .i64 (decI x).rd, .int .i64 (decI x).a, .int .i64 (decI x).b, .int .i64 (decI x).imm, .int .i64 (decI x).csr, .bool (decI x).aq, .bool (decI x).rl], .bool true]) ∧ Below w.heap.size w w') := Lib.hid fun w ht => by have h := decode_is x w ht; rw [h1] at h; exact h
  have H2 : Hid (∀ w, Tab w → Calls Tryd.prog 13 #[.agg #[.int .i64 (decI x).op, .int .i64 (rd % 32), .int .i64 (a % 32), .int .i64 (b % 32), .int .i64 (decI x).imm, .int .i64 (decI x).csr, .bool (decI x).aq, .bool (decI x).rl]] w fun e w' => e = .returned (.tuple #[.int .u32 0, .int .i64 80]) ∧ Below w.heap.size w w') := Lib.hid fun w ht => by have h := encode_is (Ins.mk (decI x).op (rd % 32) (a % 32) (b % 32) (decI x).imm (decI x).csr (decI x).aq (decI x).rl) w ht; rw [(enc_not h2).1, (enc_not h2).2] at h; exact h
  have HT := Lib.hid ht
  obtain ⟨r0, r1⟩ := w1
  obtain ⟨a0, a1⟩ := w2
  obtain ⟨b0, b1⟩ := w3
  clear ht h1 h2
  generalize decI x = I at *
  go_enter Tryd.func9, Tryd.ntmps9
  go_wp2_with (first
    | (go_at_call 10; (with_reducible refine (H1.out _ HT.out).mono ?_); rintro e w1 ⟨rfl, hb1⟩; have HB1 := Lib.hid (hb1.alloc hb1.size (.cells #[.int .i64 I.op, .int .i64 I.rd, .int .i64 I.a, .int .i64 I.b, .int .i64 I.imm, .int .i64 I.csr, .bool I.aq, .bool I.rl] 24)); clear hb1)
    | (go_at_call 13; (with_reducible refine (H2.out _ (HT.out.below (HB1.out.alloc HB1.out.size (.cells #[.int .i64 I.op, .int .i64 (rd % 32), .int .i64 (a % 32), .int .i64 (b % 32), .int .i64 I.imm, .int .i64 I.csr, .bool I.aq, .bool I.rl] 24)))).mono ?_); rintro e w2 ⟨rfl, hb2⟩; have hz2 : w1.heap.size + 1 < w2.heap.size := (by have := hb2.size; simp at this; omega); obtain ⟨hc2, hf2⟩ := bcell hb2; have HB2 := Lib.hid ((HB1.out.alloc HB1.out.size (.cells #[.int .i64 I.op, .int .i64 (rd % 32), .int .i64 (a % 32), .int .i64 (b % 32), .int .i64 I.imm, .int .i64 I.csr, .bool I.aq, .bool I.rl] 24)).trans (hb2.mono (HB1.out.alloc HB1.out.size (.cells #[.int .i64 I.op, .int .i64 (rd % 32), .int .i64 (a % 32), .int .i64 (b % 32), .int .i64 I.imm, .int .i64 I.csr, .bool I.aq, .bool I.rl] 24)).size)); clear hb2)
    | (go_at_call 12; (with_reducible refine (wakes_any _ (HT.out.below HB2.out)).mono ?_); rintro e w5 ⟨rfl, hb5⟩; have HB5 := Lib.hid (HB2.out.trans (hb5.mono HB2.out.size)); clear hb5))
  go_ret
  exact ⟨rfl, HB5.out⟩

set_option maxHeartbeats 2000000 in
theorem keeps_good (x rd a b : Int) (w : World) (w1 : 0 ≤ rd ∧ rd < 256) (w2 : 0 ≤ a ∧ a < 256) (w3 : 0 ≤ b ∧ b < 256) (h1 : decB x = true) (h2 :  encE (Ins.mk (decI x).op (rd % 32) (a % 32) (b % 32) (decI x).imm (decI x).csr (decI x).aq (decI x).rl) = 0) (ht : Tab w) :
    Calls Tryd.prog 9 #[.int .u32 x, .int .u8 rd, .int .u8 a, .int .u8 b] w fun e w' => e = .returned (.bool true) ∧ Below w.heap.size w w' := by
  have H1 : Hid (∀ w, Tab w → Calls Tryd.prog 10 #[.int .u32 x] w fun e w' => e = .returned (.tuple #[.agg #[.int .i64 (decI x).op, .int .i64 (decI x).rd, .int .i64 (decI x).a, .int .i64 (decI x).b, .int .i64 (decI x).imm, .int .i64 (decI x).csr, .bool (decI x).aq, .bool (decI x).rl], .bool true]) ∧ Below w.heap.size w w') := Lib.hid fun w ht => by have h := decode_is x w ht; rw [h1] at h; exact h
  have H2 : Hid (∀ w, Tab w → Calls Tryd.prog 13 #[.agg #[.int .i64 (decI x).op, .int .i64 (rd % 32), .int .i64 (a % 32), .int .i64 (b % 32), .int .i64 (decI x).imm, .int .i64 (decI x).csr, .bool (decI x).aq, .bool (decI x).rl]] w fun e w' => e = .returned (.tuple #[.int .u32 (encW (Ins.mk (decI x).op (rd % 32) (a % 32) (b % 32) (decI x).imm (decI x).csr (decI x).aq (decI x).rl)), .int .i64 0]) ∧ Below w.heap.size w w') := Lib.hid fun w ht => by have h := encode_is (Ins.mk (decI x).op (rd % 32) (a % 32) (b % 32) (decI x).imm (decI x).csr (decI x).aq (decI x).rl) w ht; rw [h2] at h; exact h
  have H3 : Hid (∀ w, Tab w → Calls Tryd.prog 10 #[.int .u32 (encW (Ins.mk (decI x).op (rd % 32) (a % 32) (b % 32) (decI x).imm (decI x).csr (decI x).aq (decI x).rl))] w fun e w' => e = .returned (.tuple #[.agg #[.int .i64 (decI x).op, .int .i64 (rd % 32), .int .i64 (a % 32), .int .i64 (b % 32), .int .i64 (decI x).imm, .int .i64 (decI x).csr, .bool (decI x).aq, .bool (decI x).rl], .bool true]) ∧ Below w.heap.size w w') := Lib.hid fun w ht => by have h := decode_is (encW (Ins.mk (decI x).op (rd % 32) (a % 32) (b % 32) (decI x).imm (decI x).csr (decI x).aq (decI x).rl)) w ht; rw [(dec_enc h2).1, (dec_enc h2).2.1] at h; exact h
  generalize encW (Ins.mk (decI x).op (rd % 32) (a % 32) (b % 32) (decI x).imm (decI x).csr (decI x).aq (decI x).rl) = V at *
  have HT := Lib.hid ht
  obtain ⟨r0, r1⟩ := w1
  obtain ⟨a0, a1⟩ := w2
  obtain ⟨b0, b1⟩ := w3
  clear ht h1 h2
  generalize decI x = I at *
  go_enter Tryd.func9, Tryd.ntmps9
  go_wp2_with (first
    | (go_at_call 10; (with_reducible refine (H1.out _ HT.out).mono ?_); rintro e w1 ⟨rfl, hb1⟩; have HB1 := Lib.hid (hb1.alloc hb1.size (.cells #[.int .i64 I.op, .int .i64 I.rd, .int .i64 I.a, .int .i64 I.b, .int .i64 I.imm, .int .i64 I.csr, .bool I.aq, .bool I.rl] 24)); clear hb1)
    | (go_at_call 13; (with_reducible refine (H2.out _ (HT.out.below (HB1.out.alloc HB1.out.size (.cells #[.int .i64 I.op, .int .i64 (rd % 32), .int .i64 (a % 32), .int .i64 (b % 32), .int .i64 I.imm, .int .i64 I.csr, .bool I.aq, .bool I.rl] 24)))).mono ?_); rintro e w2 ⟨rfl, hb2⟩; have hz2 : w1.heap.size + 1 < w2.heap.size := (by have := hb2.size; simp at this; omega); obtain ⟨hc2, hf2⟩ := bcell hb2; have HB2 := Lib.hid ((HB1.out.alloc HB1.out.size (.cells #[.int .i64 I.op, .int .i64 (rd % 32), .int .i64 (a % 32), .int .i64 (b % 32), .int .i64 I.imm, .int .i64 I.csr, .bool I.aq, .bool I.rl] 24)).trans (hb2.mono (HB1.out.alloc HB1.out.size (.cells #[.int .i64 I.op, .int .i64 (rd % 32), .int .i64 (a % 32), .int .i64 (b % 32), .int .i64 I.imm, .int .i64 I.csr, .bool I.aq, .bool I.rl] 24)).size)); clear hb2)
    | (go_at_call 10; (with_reducible refine (H3.out _ (HT.out.below HB2.out)).mono ?_); rintro e w3 ⟨rfl, hb3⟩; have hz3 : w1.heap.size + 1 < w3.heap.size := Nat.lt_of_lt_of_le hz2 hb3.size; obtain ⟨hc3, hf3⟩ := bcell hb3; have HB3 := Lib.hid ((HB2.out.trans (hb3.mono HB2.out.size)).alloc (Nat.le_trans HB2.out.size hb3.size) (.cells #[.int .i64 I.op, .int .i64 (rd % 32), .int .i64 (a % 32), .int .i64 (b % 32), .int .i64 I.imm, .int .i64 I.csr, .bool I.aq, .bool I.rl] 24)); clear hb3)
    | (go_at_call 12; (with_reducible refine (wakes_any _ (HT.out.below HB3.out)).mono ?_); rintro e w5 ⟨rfl, hb5⟩; have HB5 := Lib.hid (HB3.out.trans (hb5.mono HB3.out.size)); clear hb5))
  go_ret
  exact ⟨rfl, HB5.out⟩
theorem decodeKeeps_walk (x rd a b : Int) (w : World) (w0 : In32 x) (w1 : 0 ≤ rd ∧ rd < 256) (w2 : 0 ≤ a ∧ a < 256) (w3 : 0 ≤ b ∧ b < 256) (ht : Tab w) :
    Calls Tryd.prog 9 #[.int .u32 x, .int .u8 rd, .int .u8 a, .int .u8 b] w fun e w' => e = .returned (.bool true) ∧ Below w.heap.size w w' := by
  cases h1 : decB x
  · exact keeps_none x rd a b w w1 w2 w3 h1 ht
  · by_cases h2 : encE (Ins.mk (decI x).op (rd % 32) (a % 32) (b % 32) (decI x).imm (decI x).csr (decI x).aq (decI x).rl) = 0
    · exact keeps_good x rd a b w w1 w2 w3 h1 h2 ht
    · exact keeps_bad x rd a b w w1 w2 w3 h1 h2 ht

end Go.Proofs.YtehlihhnkojjeaaDoor
