/- Layer 9: what Decode and Encode tell, as functions; what follows of them. Plain Lean; nothing of the program. -/
import Derived.Test.YtehlihhnkojjeaaDoorDn
namespace Go.Proofs.YtehlihhnkojjeaaDoor
open Go.RowKit
set_option linter.unusedVariables false
set_option maxRecDepth 100000

/-- The Op that a word is, 0 if it is none. -/
def decK (x : Int) : Nat := ((List.range 114).find? fun k => decide (1 ≤ k) && isT k x).getD 0
def insZ : Ins := ⟨0, 0, 0, 0, 0, 0, false, false⟩
def decI (x : Int) : Ins := if decK x = 0 then insZ else says (fT (decK x)) (decK x) x
def decB (x : Int) : Bool := decide (¬ decK x = 0)
theorem decK_at {k : Nat} {x : Int} (h1 : 1 ≤ k) (h2 : k ≤ 113) (h : isT k x = true) : decK x = k := by
  unfold decK
  cases e : (List.range 114).find? fun k => decide (1 ≤ k) && isT k x with
  | none =>
    have := (List.find?_eq_none.1 e) k (List.mem_range.2 (by omega))
    rw [decide_eq_true h1, h] at this
    simp at this
  | some j =>
    have hj := List.find?_some e
    have hm := List.mem_range.1 (List.mem_of_find?_eq_some e)
    rw [Bool.and_eq_true, decide_eq_true_eq] at hj
    exact isT_uniq hj.1 hm h1 (by omega) hj.2 h
theorem decK_is {x : Int} (h : ¬ decK x = 0) : 1 ≤ decK x ∧ decK x ≤ 113 ∧ isT (decK x) x = true := by
  cases e : (List.range 114).find? fun k => decide (1 ≤ k) && isT k x with
  | none => exact absurd (by unfold decK; rw [e]; rfl) h
  | some j =>
    have hj := List.find?_some e
    have hm := List.mem_range.1 (List.mem_of_find?_eq_some e)
    rw [Bool.and_eq_true, decide_eq_true_eq] at hj
    have : decK x = j := by unfold decK; rw [e]; rfl
    rw [this]; exact ⟨hj.1, by omega, hj.2⟩
theorem decK_none {x : Int} (h : decK x = 0) (j : Nat) (h1 : 1 ≤ j) (h2 : j ≤ 113) : isT j x = false := by
  cases e : isT j x
  · rfl
  · rw [decK_at h1 h2 e] at h; omega

/-- Instructions that are one. -/
def eqI (u v : Ins) : Bool := (u.op == v.op) && (u.rd == v.rd) && (u.a == v.a) && (u.b == v.b) && (u.imm == v.imm) && (u.csr == v.csr) && (u.aq == v.aq) && (u.rl == v.rl)
theorem eqI_iff (u v : Ins) : eqI u v = true ↔ u = v := by
  obtain ⟨a, b, c, d, e, f, g, h⟩ := u
  obtain ⟨a', b', c', d', e', f', g', h'⟩ := v
  unfold eqI
  simp only [Bool.and_eq_true, beq_iff_eq, Ins.mk.injEq]
  constructor
  · rintro ⟨⟨⟨⟨⟨⟨⟨h1, h2⟩, h3⟩, h4⟩, h5⟩, h6⟩, h7⟩, h8⟩; exact ⟨h1, h2, h3, h4, h5, h6, h7, h8⟩
  · rintro ⟨h1, h2, h3, h4, h5, h6, h7, h8⟩; exact ⟨⟨⟨⟨⟨⟨⟨h1, h2⟩, h3⟩, h4⟩, h5⟩, h6⟩, h7⟩, h8⟩
/-- An instruction of the table that is right. -/
def RightT (k : Nat) (i : Ins) : Prop := 1 ≤ k ∧ k ≤ 113 ∧ i.op = k ∧ Right (fT k) i
def rightB (i : Ins) : Bool := decide (1 ≤ i.op ∧ i.op ≤ 113) && eqI (says (fT i.op.toNat) i.op (wordI (matT i.op.toNat) (fT i.op.toNat) i)) i
def encW (i : Ins) : Int := if rightB i then wordI (matT i.op.toNat) (fT i.op.toNat) i else 0
def encE (i : Ins) : Int := if rightB i then 0 else 80
theorem rightB_of {k : Nat} {i : Ins} (h : RightT k i) : rightB i = true ∧ i.op.toNat = k := by
  obtain ⟨h1, h2, h3, h4⟩ := h
  have e : i.op.toNat = k := by omega
  refine ⟨?_, e⟩
  unfold rightB
  rw [decide_eq_true (by omega), Bool.true_and, e]
  exact (eqI_iff _ _).2 ((right_iff h1 (by omega) i).2 h4)
theorem rightT_of {i : Ins} (h : rightB i = true) : RightT i.op.toNat i := by
  unfold rightB at h
  rw [Bool.and_eq_true, decide_eq_true_eq] at h
  exact ⟨by omega, by omega, by omega, (right_iff (by omega) (by omega) i).1 ((eqI_iff _ _).1 h.2)⟩
theorem rightB_no {i : Ins} (h : rightB i = false) (k : Nat) : ¬ RightT k i := by
  intro hk; rw [(rightB_of hk).1] at h; cases h

theorem dec_zero {x : Int} (h : decB x = false) : decI x = insZ := by
  unfold decB at h
  have h' : decK x = 0 := by simpa using h
  unfold decI; rw [if_pos h']
theorem dec_pos {x : Int} (h : decB x = true) : ¬ decK x = 0 := by unfold decB at h; simpa using h
theorem dec_says {x : Int} (h : decB x = true) : decI x = says (fT (decK x)) (decK x) x := by unfold decI; rw [if_neg (dec_pos h)]
theorem dec_op {x : Int} (h : decB x = true) : (decI x).op = (decK x : Int) := by rw [dec_says h]; rfl
/-- Encode of what Decode says. -/
theorem enc_dec {x : Int} (hx : In32 x) (h : decB x = true) : encW (decI x) = x ∧ encE (decI x) = 0 := by
  obtain ⟨h1, h2, h3⟩ := decK_is (dec_pos h)
  have hw := word_says h1 (by omega) hx h3 (decK x)
  have hr : rightB (decI x) = true := by
    unfold rightB
    rw [dec_op h, decide_eq_true (by omega), Bool.true_and, show ((decK x : Int)).toNat = decK x by omega, dec_says h, hw]
    exact (eqI_iff _ _).2 rfl
  unfold encW encE
  rw [hr, if_pos rfl, if_pos rfl, dec_op h, show ((decK x : Int)).toNat = decK x by omega, dec_says h, hw]
  exact ⟨rfl, rfl⟩
/-- Decode of what Encode says. -/
theorem dec_enc {i : Ins} (h : encE i = 0) : decB (encW i) = true ∧ decI (encW i) = i ∧ In32 (encW i) := by
  have hr : rightB i = true := by
    unfold encE at h
    cases c : rightB i
    · rw [c] at h; simp at h
    · rfl
  have ht := rightT_of hr
  obtain ⟨h1, h2, h3, h4⟩ := ht
  have hW : encW i = wordI (matT i.op.toNat) (fT i.op.toNat) i := by unfold encW; rw [if_pos hr]
  have hk := decK_at h1 h2 (isT_word h1 (by omega) i)
  rw [← hW] at hk
  have hb : decB (encW i) = true := by unfold decB; rw [hk]; simp; omega
  refine ⟨hb, ?_, by rw [hW]; exact or_in _ _⟩
  rw [dec_says hb, hk, hW, ← h3]
  exact (right_iff h1 (by omega) i).2 h4
theorem enc_not {i : Ins} (h : ¬ encE i = 0) : encE i = 80 ∧ encW i = 0 := by
  unfold encE at h ⊢
  unfold encW
  cases c : rightB i
  · exact ⟨rfl, rfl⟩
  · rw [c] at h; simp at h
/-- Words that are not one say not the same. -/
theorem dec_inj {x y : Int} (hx : In32 x) (hy : In32 y) (h1 : decB x = true) (h2 : decB y = true) (hne : ¬ x = y) : ¬ decI x = decI y := by
  intro e
  have a := (enc_dec hx h1).1
  rw [e, (enc_dec hy h2).1] at a
  exact hne a.symm
theorem wake1 : decB 5243027 = true ∧ eqI (decI 5243027) ⟨22, 1, 0, 0, 5, 0, false, false⟩ = true := by decide +kernel
theorem wake2 : encE ⟨6, 0, 1, 2, -4, 0, false, false⟩ = 0 ∧ encW ⟨6, 0, 1, 2, -4, 0, false, false⟩ = 4263550691 := by decide +kernel
/-- Names are told apart. -/
theorem name_apart : ∀ j, j < 114 → ∀ k, k < 114 → j < k → nameL.getD j [] ≠ nameL.getD k [] := by decide +kernel
end Go.Proofs.YtehlihhnkojjeaaDoor
