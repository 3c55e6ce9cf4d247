/- Layer 9: the walk of DecodeNear. -/
import Derived.Test.YtehlihhnkojjeaaDoorDv
namespace Go.Proofs.YtehlihhnkojjeaaDoor
open Go.RowKit
set_option linter.unusedVariables false
set_option maxRecDepth 100000

theorem xor_bv (x y : Int) : bits .xor .u32 x y = ((V3 x ^^^ V3 y).toNat : Int) := by
  show IntKind.u32.wrap ((V3 x ^^^ V3 y).toNat : Int) = _
  exact wrap_bv _
theorem xor_in (x y : Int) : In32 (bits .xor .u32 x y) := by rw [xor_bv]; exact bv_in32 _
theorem tb_xor {x y : Int} {q : Nat} (h : q < 32) : tb (bits .xor .u32 x y) q = (tb x q ^^ tb y q) := by
  rw [xor_bv, tb_bv, BitVec.getLsbD_xor, V3_bit, V3_bit, decide_eq_true h]; simp
/-- A word with one bit turned. -/
def turnZ (x : Int) (k : Nat) : Int := bits .xor .u32 x (2 ^ k)
theorem turn_ne (x : Int) {k : Nat} (hk : k < 32) : ¬ x = turnZ x k := by
  intro e
  have h : tb x k = tb (turnZ x k) k := by rw [← e]
  have h2 := tb_pow (p := (k : Int)) (by omega) k
  rw [show ((k : Int)).toNat = k by omega, decide_eq_true rfl] at h2
  unfold turnZ at h
  rw [tb_xor hk, h2] at h
  cases c : tb x k <;> rw [c] at h <;> cases h
set_option maxHeartbeats 1000000 in
theorem near_true_true (x b : Int) (w : World) (w0 : In32 x) (w1 : 0 ≤ b ∧ b < 256) (h1 : decB x = true) (h2 : decB (turnZ x (b % 32).toNat) = true) (ht : Tab w) :
    Calls Tryd.prog 8 #[.int .u32 x, .int .u8 b] w fun e w' => e = .returned (.bool true) ∧ Below w.heap.size w w' := by
  have hk : (b % 32).toNat < 32 := by omega
  have hp := pow_le_32 (l := (b % 32).toNat) (by omega)
  have hp2 : (2 : Int) ^ (b % 32).toNat ≤ 2 ^ 31 := by exact_mod_cast Nat.pow_le_pow_right (by omega) (show (b % 32).toNat ≤ 31 by omega)
  have hv : (2 : Int) ^ (b % 32).toNat % 4294967296 = 2 ^ (b % 32).toNat := by rw [show (2 : Int) ^ 31 = 2147483648 from rfl] at hp2; omega
  have H1 : Hid (∀ w, Tab w → Calls Tryd.prog 10 #[.int .u32 x] w fun e w' => e = .returned (.tuple #[.agg #[.int .i64 (decI x).op, .int .i64 (decI x).rd, .int .i64 (decI x).a, .int .i64 (decI x).b, .int .i64 (decI x).imm, .int .i64 (decI x).csr, .bool (decI x).aq, .bool (decI x).rl], .bool true]) ∧ Below w.heap.size w w') := Lib.hid fun w ht => by have h := decode_is x w ht; rw [h1] at h; exact h
  have H2 : Hid (∀ w, Tab w → Calls Tryd.prog 10 #[.int .u32 (bits .xor .u32 x (2 ^ (b % 32).toNat % 4294967296))] w fun e w' => e = .returned (.tuple #[.agg #[.int .i64 (decI (turnZ x (b % 32).toNat)).op, .int .i64 (decI (turnZ x (b % 32).toNat)).rd, .int .i64 (decI (turnZ x (b % 32).toNat)).a, .int .i64 (decI (turnZ x (b % 32).toNat)).b, .int .i64 (decI (turnZ x (b % 32).toNat)).imm, .int .i64 (decI (turnZ x (b % 32).toNat)).csr, .bool (decI (turnZ x (b % 32).toNat)).aq, .bool (decI (turnZ x (b % 32).toNat)).rl], .bool true]) ∧ Below w.heap.size w w') := Lib.hid fun w ht => by have h := decode_is (turnZ x (b % 32).toNat) w ht; rw [h2] at h; rw [hv]; exact h
  have hne : eqI (decI x) (decI (turnZ x (b % 32).toNat)) = false := by
    cases c : eqI (decI x) (decI (turnZ x (b % 32).toNat))
    · rfl
    · exact absurd ((eqI_iff _ _).1 c) (dec_inj w0 (xor_in _ _) h1 h2 (turn_ne x hk))
  have hN : ∀ w, (binOp .neq 24 (.agg #[.int .i64 (decI x).op, .int .i64 (decI x).rd, .int .i64 (decI x).a, .int .i64 (decI x).b, .int .i64 (decI x).imm, .int .i64 (decI x).csr, .bool (decI x).aq, .bool (decI x).rl]) (.agg #[.int .i64 (decI (turnZ x (b % 32).toNat)).op, .int .i64 (decI (turnZ x (b % 32).toNat)).rd, .int .i64 (decI (turnZ x (b % 32).toNat)).a, .int .i64 (decI (turnZ x (b % 32).toNat)).b, .int .i64 (decI (turnZ x (b % 32).toNat)).imm, .int .i64 (decI (turnZ x (b % 32).toNat)).csr, .bool (decI (turnZ x (b % 32).toNat)).aq, .bool (decI (turnZ x (b % 32).toNat)).rl])).run Tryd.prog w = .ok (.bool true) w := fun w => by rw [neq_ins, hne]; rfl
  clear hne
  have HT := Lib.hid ht
  obtain ⟨b0, b1⟩ := w1
  clear ht h1 h2 hk hp hp2 hv
  generalize decI x = I at *
  generalize decI (turnZ x (b % 32).toNat) = J at *
  go_enter Tryd.func8, Tryd.ntmps8
  go_wp2_with (first
    | (go_at_call 10; (with_reducible refine (H1.out _ HT.out).mono ?_); rintro e w1 ⟨rfl, hb1⟩; have HB1 := Lib.hid (hb1.alloc hb1.size (.cells #[.int .i64 I.op, .int .i64 I.rd, .int .i64 I.a, .int .i64 I.b, .int .i64 I.imm, .int .i64 I.csr, .bool I.aq, .bool I.rl] 24)); clear hb1)
    | (go_at_call 10; (with_reducible refine (H2.out _ (HT.out.below HB1.out)).mono ?_); rintro e w2 ⟨rfl, hb2⟩; have hz2 : w1.heap.size < w2.heap.size := (by have := hb2.size; simp at this; omega); obtain ⟨hc2, hf2⟩ := bcell hb2; have HB2 := Lib.hid ((HB1.out.trans (hb2.mono HB1.out.size)).alloc (Nat.le_trans HB1.out.size hb2.size) (.cells #[.int .i64 J.op, .int .i64 J.rd, .int .i64 J.a, .int .i64 J.b, .int .i64 J.imm, .int .i64 J.csr, .bool J.aq, .bool J.rl] 24)); clear hb2)
    | (go_at_call 12; (with_reducible refine (wakes_any _ (HT.out.below HB2.out)).mono ?_); rintro e w3 ⟨rfl, hb3⟩; have HB3 := Lib.hid (HB2.out.trans (hb3.mono HB2.out.size)); clear hb3))
  go_ret
  exact ⟨rfl, HB3.out⟩
set_option maxHeartbeats 1000000 in
theorem near_true_false (x b : Int) (w : World) (w0 : In32 x) (w1 : 0 ≤ b ∧ b < 256) (h1 : decB x = true) (h2 : decB (turnZ x (b % 32).toNat) = false) (ht : Tab w) :
    Calls Tryd.prog 8 #[.int .u32 x, .int .u8 b] w fun e w' => e = .returned (.bool true) ∧ Below w.heap.size w w' := by
  have hk : (b % 32).toNat < 32 := by omega
  have hp := pow_le_32 (l := (b % 32).toNat) (by omega)
  have hp2 : (2 : Int) ^ (b % 32).toNat ≤ 2 ^ 31 := by exact_mod_cast Nat.pow_le_pow_right (by omega) (show (b % 32).toNat ≤ 31 by omega)
  have hv : (2 : Int) ^ (b % 32).toNat % 4294967296 = 2 ^ (b % 32).toNat := by rw [show (2 : Int) ^ 31 = 2147483648 from rfl] at hp2; omega
  have H1 : Hid (∀ w, Tab w → Calls Tryd.prog 10 #[.int .u32 x] w fun e w' => e = .returned (.tuple #[.agg #[.int .i64 (decI x).op, .int .i64 (decI x).rd, .int .i64 (decI x).a, .int .i64 (decI x).b, .int .i64 (decI x).imm, .int .i64 (decI x).csr, .bool (decI x).aq, .bool (decI x).rl], .bool true]) ∧ Below w.heap.size w w') := Lib.hid fun w ht => by have h := decode_is x w ht; rw [h1] at h; exact h
  have H2 : Hid (∀ w, Tab w → Calls Tryd.prog 10 #[.int .u32 (bits .xor .u32 x (2 ^ (b % 32).toNat % 4294967296))] w fun e w' => e = .returned (.tuple #[.agg #[.int .i64 (decI (turnZ x (b % 32).toNat)).op, .int .i64 (decI (turnZ x (b % 32).toNat)).rd, .int .i64 (decI (turnZ x (b % 32).toNat)).a, .int .i64 (decI (turnZ x (b % 32).toNat)).b, .int .i64 (decI (turnZ x (b % 32).toNat)).imm, .int .i64 (decI (turnZ x (b % 32).toNat)).csr, .bool (decI (turnZ x (b % 32).toNat)).aq, .bool (decI (turnZ x (b % 32).toNat)).rl], .bool false]) ∧ Below w.heap.size w w') := Lib.hid fun w ht => by have h := decode_is (turnZ x (b % 32).toNat) w ht; rw [h2] at h; rw [hv]; exact h
  have HT := Lib.hid ht
  obtain ⟨b0, b1⟩ := w1
  clear ht h1 h2 hk hp hp2 hv
  generalize decI x = I at *
  generalize decI (turnZ x (b % 32).toNat) = J at *
  go_enter Tryd.func8, Tryd.ntmps8
  go_wp2_with (first
    | (go_at_call 10; (with_reducible refine (H1.out _ HT.out).mono ?_); rintro e w1 ⟨rfl, hb1⟩; have HB1 := Lib.hid (hb1.alloc hb1.size (.cells #[.int .i64 I.op, .int .i64 I.rd, .int .i64 I.a, .int .i64 I.b, .int .i64 I.imm, .int .i64 I.csr, .bool I.aq, .bool I.rl] 24)); clear hb1)
    | (go_at_call 10; (with_reducible refine (H2.out _ (HT.out.below HB1.out)).mono ?_); rintro e w2 ⟨rfl, hb2⟩; have hz2 : w1.heap.size < w2.heap.size := (by have := hb2.size; simp at this; omega); obtain ⟨hc2, hf2⟩ := bcell hb2; have HB2 := Lib.hid ((HB1.out.trans (hb2.mono HB1.out.size)).alloc (Nat.le_trans HB1.out.size hb2.size) (.cells #[.int .i64 J.op, .int .i64 J.rd, .int .i64 J.a, .int .i64 J.b, .int .i64 J.imm, .int .i64 J.csr, .bool J.aq, .bool J.rl] 24)); clear hb2)
    | (go_at_call 12; (with_reducible refine (wakes_any _ (HT.out.below HB2.out)).mono ?_); rintro e w3 ⟨rfl, hb3⟩; have HB3 := Lib.hid (HB2.out.trans (hb3.mono HB2.out.size)); clear hb3))
  go_ret
  exact ⟨rfl, HB3.out⟩
set_option maxHeartbeats 1000000 in
theorem near_false_true (x b : Int) (w : World) (w0 : In32 x) (w1 : 0 ≤ b ∧ b < 256) (h1 : decB x = false) (h2 : decB (turnZ x (b % 32).toNat) = true) (ht : Tab w) :
    Calls Tryd.prog 8 #[.int .u32 x, .int .u8 b] w fun e w' => e = .returned (.bool true) ∧ Below w.heap.size w w' := by
  have hk : (b % 32).toNat < 32 := by omega
  have hp := pow_le_32 (l := (b % 32).toNat) (by omega)
  have hp2 : (2 : Int) ^ (b % 32).toNat ≤ 2 ^ 31 := by exact_mod_cast Nat.pow_le_pow_right (by omega) (show (b % 32).toNat ≤ 31 by omega)
  have hv : (2 : Int) ^ (b % 32).toNat % 4294967296 = 2 ^ (b % 32).toNat := by rw [show (2 : Int) ^ 31 = 2147483648 from rfl] at hp2; omega
  have H1 : Hid (∀ w, Tab w → Calls Tryd.prog 10 #[.int .u32 x] w fun e w' => e = .returned (.tuple #[.agg #[.int .i64 (decI x).op, .int .i64 (decI x).rd, .int .i64 (decI x).a, .int .i64 (decI x).b, .int .i64 (decI x).imm, .int .i64 (decI x).csr, .bool (decI x).aq, .bool (decI x).rl], .bool false]) ∧ Below w.heap.size w w') := Lib.hid fun w ht => by have h := decode_is x w ht; rw [h1] at h; exact h
  have H2 : Hid (∀ w, Tab w → Calls Tryd.prog 10 #[.int .u32 (bits .xor .u32 x (2 ^ (b % 32).toNat % 4294967296))] w fun e w' => e = .returned (.tuple #[.agg #[.int .i64 (decI (turnZ x (b % 32).toNat)).op, .int .i64 (decI (turnZ x (b % 32).toNat)).rd, .int .i64 (decI (turnZ x (b % 32).toNat)).a, .int .i64 (decI (turnZ x (b % 32).toNat)).b, .int .i64 (decI (turnZ x (b % 32).toNat)).imm, .int .i64 (decI (turnZ x (b % 32).toNat)).csr, .bool (decI (turnZ x (b % 32).toNat)).aq, .bool (decI (turnZ x (b % 32).toNat)).rl], .bool true]) ∧ Below w.heap.size w w') := Lib.hid fun w ht => by have h := decode_is (turnZ x (b % 32).toNat) w ht; rw [h2] at h; rw [hv]; exact h
  have HT := Lib.hid ht
  obtain ⟨b0, b1⟩ := w1
  clear ht h1 h2 hk hp hp2 hv
  generalize decI x = I at *
  generalize decI (turnZ x (b % 32).toNat) = J at *
  go_enter Tryd.func8, Tryd.ntmps8
  go_wp2_with (first
    | (go_at_call 10; (with_reducible refine (H1.out _ HT.out).mono ?_); rintro e w1 ⟨rfl, hb1⟩; have HB1 := Lib.hid (hb1.alloc hb1.size (.cells #[.int .i64 I.op, .int .i64 I.rd, .int .i64 I.a, .int .i64 I.b, .int .i64 I.imm, .int .i64 I.csr, .bool I.aq, .bool I.rl] 24)); clear hb1)
    | (go_at_call 10; (with_reducible refine (H2.out _ (HT.out.below HB1.out)).mono ?_); rintro e w2 ⟨rfl, hb2⟩; have hz2 : w1.heap.size < w2.heap.size := (by have := hb2.size; simp at this; omega); obtain ⟨hc2, hf2⟩ := bcell hb2; have HB2 := Lib.hid ((HB1.out.trans (hb2.mono HB1.out.size)).alloc (Nat.le_trans HB1.out.size hb2.size) (.cells #[.int .i64 J.op, .int .i64 J.rd, .int .i64 J.a, .int .i64 J.b, .int .i64 J.imm, .int .i64 J.csr, .bool J.aq, .bool J.rl] 24)); clear hb2)
    | (go_at_call 12; (with_reducible refine (wakes_any _ (HT.out.below HB2.out)).mono ?_); rintro e w3 ⟨rfl, hb3⟩; have HB3 := Lib.hid (HB2.out.trans (hb3.mono HB2.out.size)); clear hb3))
  go_ret
  exact ⟨rfl, HB3.out⟩
set_option maxHeartbeats 1000000 in
theorem near_false_false (x b : Int) (w : World) (w0 : In32 x) (w1 : 0 ≤ b ∧ b < 256) (h1 : decB x = false) (h2 : decB (turnZ x (b % 32).toNat) = false) (ht : Tab w) :
    Calls Tryd.prog 8 #[.int .u32 x, .int .u8 b] w fun e w' => e = .returned (.bool true) ∧ Below w.heap.size w w' := by
  have hk : (b % 32).toNat < 32 := by omega
  have hp := pow_le_32 (l := (b % 32).toNat) (by omega)
  have hp2 : (2 : Int) ^ (b % 32).toNat ≤ 2 ^ 31 := by exact_mod_cast Nat.pow_le_pow_right (by omega) (show (b % 32).toNat ≤ 31 by omega)
  have hv : (2 : Int) ^ (b % 32).toNat % 4294967296 = 2 ^ (b % 32).toNat := by rw [show (2 : Int) ^ 31 = 2147483648 from rfl] at hp2; omega
  have H1 : Hid (∀ w, Tab w → Calls Tryd.prog 10 #[.int .u32 x] w fun e w' => e = .returned (.tuple #[.agg #[.int .i64 (decI x).op, .int .i64 (decI x).rd, .int .i64 (decI x).a, .int .i64 (decI x).b, .int .i64 (decI x).imm, .int .i64 (decI x).csr, .bool (decI x).aq, .bool (decI x).rl], .bool false]) ∧ Below w.heap.size w w') := Lib.hid fun w ht => by have h := decode_is x w ht; rw [h1] at h; exact h
  have H2 : Hid (∀ w, Tab w → Calls Tryd.prog 10 #[.int .u32 (bits .xor .u32 x (2 ^ (b % 32).toNat % 4294967296))] w fun e w' => e = .returned (.tuple #[.agg #[.int .i64 (decI (turnZ x (b % 32).toNat)).op, .int .i64 (decI (turnZ x (b % 32).toNat)).rd, .int .i64 (decI (turnZ x (b % 32).toNat)).a, .int .i64 (decI (turnZ x (b % 32).toNat)).b, .int .i64 (decI (turnZ x (b % 32).toNat)).imm, .int .i64 (decI (turnZ x (b % 32).toNat)).csr, .bool (decI (turnZ x (b % 32).toNat)).aq, .bool (decI (turnZ x (b % 32).toNat)).rl], .bool false]) ∧ Below w.heap.size w w') := Lib.hid fun w ht => by have h := decode_is (turnZ x (b % 32).toNat) w ht; rw [h2] at h; rw [hv]; exact h
  have HT := Lib.hid ht
  obtain ⟨b0, b1⟩ := w1
  clear ht h1 h2 hk hp hp2 hv
  generalize decI x = I at *
  generalize decI (turnZ x (b % 32).toNat) = J at *
  go_enter Tryd.func8, Tryd.ntmps8
  go_wp2_with (first
    | (go_at_call 10; (with_reducible refine (H1.out _ HT.out).mono ?_); rintro e w1 ⟨rfl, hb1⟩; have HB1 := Lib.hid (hb1.alloc hb1.size (.cells #[.int .i64 I.op, .int .i64 I.rd, .int .i64 I.a, .int .i64 I.b, .int .i64 I.imm, .int .i64 I.csr, .bool I.aq, .bool I.rl] 24)); clear hb1)
    | (go_at_call 10; (with_reducible refine (H2.out _ (HT.out.below HB1.out)).mono ?_); rintro e w2 ⟨rfl, hb2⟩; have hz2 : w1.heap.size < w2.heap.size := (by have := hb2.size; simp at this; omega); obtain ⟨hc2, hf2⟩ := bcell hb2; have HB2 := Lib.hid ((HB1.out.trans (hb2.mono HB1.out.size)).alloc (Nat.le_trans HB1.out.size hb2.size) (.cells #[.int .i64 J.op, .int .i64 J.rd, .int .i64 J.a, .int .i64 J.b, .int .i64 J.imm, .int .i64 J.csr, .bool J.aq, .bool J.rl] 24)); clear hb2)
    | (go_at_call 12; (with_reducible refine (wakes_any _ (HT.out.below HB2.out)).mono ?_); rintro e w3 ⟨rfl, hb3⟩; have HB3 := Lib.hid (HB2.out.trans (hb3.mono HB2.out.size)); clear hb3))
  go_ret
  exact ⟨rfl, HB3.out⟩
theorem decodeNear_walk (x b : Int) (w : World) (w0 : In32 x) (w1 : 0 ≤ b ∧ b < 256) (ht : Tab w) :
    Calls Tryd.prog 8 #[.int .u32 x, .int .u8 b] w fun e w' => e = .returned (.bool true) ∧ Below w.heap.size w w' := by
  cases h1 : decB x <;> cases h2 : decB (turnZ x (b % 32).toNat)
  · exact near_false_false x b w w0 w1 h1 h2 ht
  · exact near_false_true x b w w0 w1 h1 h2 ht
  · exact near_true_false x b w w0 w1 h1 h2 ht
  · exact near_true_true x b w w0 w1 h1 h2 ht

end Go.Proofs.YtehlihhnkojjeaaDoor
