/- Layer 9: Encode, the program's and the document's, whole. -/
import Derived.Test.YtehlihhnkojjeaaDoorDsG
import Derived.Test.YtehlihhnkojjeaaDoorDtF
import Derived.Test.YtehlihhnkojjeaaDoorDtG
namespace Go.Proofs.YtehlihhnkojjeaaDoor
open Go.RowKit
set_option linter.unusedVariables false
set_option maxRecDepth 100000

theorem encode_yes (k : Nat) (i : Ins) (h : RightT k i) (w : World) (ht : Tab w) :
    Calls Tryd.prog 13 #[.agg #[.int .i64 i.op, .int .i64 i.rd, .int .i64 i.a, .int .i64 i.b, .int .i64 i.imm, .int .i64 i.csr, .bool i.aq, .bool i.rl]] w fun e w' => e = .returned (.tuple #[.int .u32 (wordI (matT k) (fT k) i), .int .i64 0]) ∧ Below w.heap.size w w' :=
  encode_true k h.1 h.2.1 i h.2.2.1 _ rfl ((eqI_iff _ _).2 ((right_iff h.1 (by have := h.2.1; omega) i).2 h.2.2.2)) w ht
theorem encode_no (i : Ins) (h : ∀ k, ¬ RightT k i) (w : World) (ht : Tab w) :
    Calls Tryd.prog 13 #[.agg #[.int .i64 i.op, .int .i64 i.rd, .int .i64 i.a, .int .i64 i.b, .int .i64 i.imm, .int .i64 i.csr, .bool i.aq, .bool i.rl]] w fun e w' => e = .returned (.tuple #[.int .u32 0, .int .i64 80]) ∧ Below w.heap.size w w' := by
  by_cases c : 1 ≤ i.op ∧ i.op ≤ 113
  · have e : i.op = (i.op.toNat : Int) := by omega
    refine encode_false i.op.toNat (by omega) (by omega) i e _ rfl ?_ w ht
    cases hq : eqI (says (fT i.op.toNat) i.op (wordI (matT i.op.toNat) (fT i.op.toNat) i)) i
    · rfl
    · exact absurd ⟨by omega, by omega, e, (right_iff (by omega) (by omega) i).1 ((eqI_iff _ _).1 hq)⟩ (h i.op.toNat)
  · exact encode_none i c w
theorem mark_t (s : Nat) : markZ true s = 2 ^ s := rfl
theorem mark_f (s : Nat) : markZ false s = 0 := rfl
theorem refEncode_yes (k : Nat) (i : Ins) (h : RightT k i) (w : World) :
    Calls Tryd.prog 14 #[.agg #[.int .i64 i.op, .int .i64 i.rd, .int .i64 i.a, .int .i64 i.b, .int .i64 i.imm, .int .i64 i.csr, .bool i.aq, .bool i.rl]] w fun e w' => e = .returned (.tuple #[.int .u32 (wordI (matT k) (fT k) i), .int .i64 0]) ∧ Below w.heap.size w w' := by
  obtain ⟨h1, h2, h3, hr⟩ := h
  rw [← wD_word i hr]
  have HRI := fun w => refRight_any k h1 h2 i h3 true (by simp [hr]) w
  have HRO : ∀ w, Calls Tryd.prog 23 #[.int .i64 i.op] w fun e w' => e = .returned (.agg #[.string (nameT k), .int .u32 (mskT k), .int .u32 (matT k), .int .u8 (letT (frmT k))]) ∧ Below w.heap.size w w' := fun w => by rw [h3]; exact refRow_any k h1 h2 w
  have HFO := fun w => refForm_any (frmT k) (tab_form k (by omega) h1) w
  have r1 := hr.rd
  have r2 := hr.a
  have r3 := hr.b
  have r4 := hr.csr
  have r5 := hr.imm
  have hi := (fT_ok h1 (by omega : k < 114)).imm
  change ∀ w, Calls Tryd.prog 27 #[.int .u8 (letT (frmT k))] w fun e w' => e = .returned (.int .i64 (fT k).imm) ∧ w = w' at HFO
  have z26 : (67108864 : Int) = markZ true 26 := rfl
  have z25 : (33554432 : Int) = markZ true 25 := rfl
  clear h3 hr
  obtain ⟨op, rd, a, b, imm, csr, aq, rl⟩ := i
  simp only at *
  unfold wD
  simp only
  by_cases c : (fT k).imm = 0
  · rw [c] at HFO r5 ⊢
    have hp : putF 0 imm = 0 := by unfold putF; rw [word0]; split <;> rfl
    rw [hp, or_zero32 (or_in _ _)]
    cases aq <;> cases rl <;> (try simp only [mark_f, or_zero32 (or_in _ _)]) <;> (try simp only [← z26, ← z25])
    · exact refEncode_ff0 op rd a b imm csr _ _ _ 0 0 _ w r1.1 r1.2 r2.1 r2.2 r3.1 r3.2 r4.1 r4.2 HRI HRO HFO
    · exact refEncode_ft0 op rd a b imm csr _ _ _ 0 0 _ w r1.1 r1.2 r2.1 r2.2 r3.1 r3.2 r4.1 r4.2 HRI HRO HFO
    · exact refEncode_tf0 op rd a b imm csr _ _ _ 0 0 _ w r1.1 r1.2 r2.1 r2.2 r3.1 r3.2 r4.1 r4.2 HRI HRO HFO
    · exact refEncode_tt0 op rd a b imm csr _ _ _ 0 0 _ w r1.1 r1.2 r2.1 r2.2 r3.1 r3.2 r4.1 r4.2 HRI HRO HFO
  · have HPU := fun w => refPut_form_yes (fT k).imm ⟨by omega, hi⟩ imm (beq_iff_eq.2 r5) w
    have hp : putF (fT k).imm imm = (formL (fT k).imm).word imm := by unfold putF; rw [beq_iff_eq.2 r5]; rfl
    have hK : (0 : Int) < (fT k).imm := by omega
    rw [hp]
    cases aq <;> cases rl <;> (try simp only [mark_f, or_zero32 (or_in _ _)]) <;> (try simp only [← z26, ← z25])
    · exact refEncode_ff1 op rd a b imm csr _ _ _ _ _ _ w r1.1 r1.2 r2.1 r2.2 r3.1 r3.2 r4.1 r4.2 HRI HRO HFO hK HPU
    · exact refEncode_ft1 op rd a b imm csr _ _ _ _ _ _ w r1.1 r1.2 r2.1 r2.2 r3.1 r3.2 r4.1 r4.2 HRI HRO HFO hK HPU
    · exact refEncode_tf1 op rd a b imm csr _ _ _ _ _ _ w r1.1 r1.2 r2.1 r2.2 r3.1 r3.2 r4.1 r4.2 HRI HRO HFO hK HPU
    · exact refEncode_tt1 op rd a b imm csr _ _ _ _ _ _ w r1.1 r1.2 r2.1 r2.2 r3.1 r3.2 r4.1 r4.2 HRI HRO HFO hK HPU
theorem refEncode_not (i : Ins) (h : ∀ k, ¬ RightT k i) (w : World) :
    Calls Tryd.prog 14 #[.agg #[.int .i64 i.op, .int .i64 i.rd, .int .i64 i.a, .int .i64 i.b, .int .i64 i.imm, .int .i64 i.csr, .bool i.aq, .bool i.rl]] w fun e w' => e = .returned (.tuple #[.int .u32 0, .int .i64 80]) ∧ Below w.heap.size w w' := by
  refine refEncode_no i.op i.rd i.a i.b i.imm i.csr i.aq i.rl w fun w => ?_
  by_cases c : 1 ≤ i.op ∧ i.op ≤ 113
  · have e : i.op = (i.op.toNat : Int) := by omega
    exact refRight_any i.op.toNat (by omega) (by omega) i e false ⟨fun h => (by cases h), fun hr => absurd ⟨by omega, by omega, e, hr⟩ (h i.op.toNat)⟩ w
  · exact right_op i c w

end Go.Proofs.YtehlihhnkojjeaaDoor
