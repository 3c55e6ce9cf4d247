/- Layer 9's numbers, more: what is read of the word that an instruction makes; when it is right. Plain Lean; nothing of the program. -/
import Derived.Test.YtehlihhnkojjeaaDoorDm
namespace Go.Proofs.YtehlihhnkojjeaaDoor
open Go.RowKit
set_option linter.unusedVariables false
set_option maxRecDepth 100000

theorem fld5 {W n : Int} {hi lo : Int} (h0 : 0 ≤ lo) (h1 : hi = lo + 4) (h2 : hi ≤ 31) (h : ∀ q : Nat, q < 5 → tb W (lo.toNat + q) = tb n q) : fldZ W hi lo = n % 32 := by
  refine ext32 (fldZ_in32 _ _ _) (by unfold In32; omega) fun q hq => ?_
  rw [fldZ_tb _ _ _ (by omega), show (32 : Int) = 2 ^ 5 from rfl, tb_mod]
  by_cases c : q < 5
  · rw [decide_eq_true (by omega), decide_eq_true c, h q c]
  · rw [decide_eq_false (by omega), decide_eq_false c]; rfl
theorem num_zero : ∀ k, k ≤ 9 → (formL k).number 0 = 0 ∧ (formL k).word 0 = 0 := by decide +kernel
theorem number_own {k : Nat} (hk : k ≤ 9) {x y : Int} (h : ∀ q, q < 32 → tb ((formL k).word (-1)) q = true → tb x q = tb y q) : (formL k).number x = (formL k).number y := by
  by_cases h0 : k = 0
  · rw [h0, number0, number0]
  · have hL := formL_ok k (by omega)
    refine (formL k).number_congr hL fun j q hj h1 h2 => h q ?_ ((formL k).mask_on hL hj h1 h2)
    have := hL.in31 j hj
    omega
theorem says_word {op : Nat} (h1 : 1 ≤ op) (h2 : op < 114) (n : Int) (i : Ins) :
    says (fT op) n (wordI (matT op) (fT op) i) = ⟨n, if (fT op).rd then i.rd % 32 else 0, if (fT op).a then i.a % 32 else 0, if (fT op).b then i.b % 32 else 0, (formL (fT op).imm).number (putF (fT op).imm i.imm), if (fT op).csr then (formL 8).number (putF 8 i.csr) else 0, (fT op).ord && i.aq, (fT op).ord && i.rl⟩ := by
  have hf := fT_ok h1 h2
  have P := fun (q : Nat) (hq : q < 32) (j : Nat) (hj : j < 8) ho => pick hf (sub_T h2) i hq j hj ho
  have e1 : (if (fT op).rd then fldZ (wordI (matT op) (fT op) i) 11 7 else 0) = if (fT op).rd then i.rd % 32 else 0 := by
    cases h : (fT op).rd
    · rfl
    · rw [if_pos rfl, if_pos rfl]
      refine fld5 (by omega) (by omega) (by omega) fun q hq => ?_
      rw [P ((7 : Int).toNat + q) (by omega) 1 (by omega) (by show ((fT op).rd && decide (7 ≤ (7 : Int).toNat + q ∧ (7 : Int).toNat + q < 12)) = true; rw [h, decide_eq_true (by omega)]; rfl)]
      show tb i.rd ((7 : Int).toNat + q - 7) = _
      congr 1; omega
  have e2 : (if (fT op).a then fldZ (wordI (matT op) (fT op) i) 19 15 else 0) = if (fT op).a then i.a % 32 else 0 := by
    cases h : (fT op).a
    · rfl
    · rw [if_pos rfl, if_pos rfl]
      refine fld5 (by omega) (by omega) (by omega) fun q hq => ?_
      rw [P ((15 : Int).toNat + q) (by omega) 2 (by omega) (by show ((fT op).a && decide (15 ≤ (15 : Int).toNat + q ∧ (15 : Int).toNat + q < 20)) = true; rw [h, decide_eq_true (by omega)]; rfl)]
      show tb i.a ((15 : Int).toNat + q - 15) = _
      congr 1; omega
  have e3 : (if (fT op).b then fldZ (wordI (matT op) (fT op) i) 24 20 else 0) = if (fT op).b then i.b % 32 else 0 := by
    cases h : (fT op).b
    · rfl
    · rw [if_pos rfl, if_pos rfl]
      refine fld5 (by omega) (by omega) (by omega) fun q hq => ?_
      rw [P ((20 : Int).toNat + q) (by omega) 3 (by omega) (by show ((fT op).b && decide (20 ≤ (20 : Int).toNat + q ∧ (20 : Int).toNat + q < 25)) = true; rw [h, decide_eq_true (by omega)]; rfl)]
      show tb i.b ((20 : Int).toNat + q - 20) = _
      congr 1; omega
  have e4 : (formL (fT op).imm).number (wordI (matT op) (fT op) i) = (formL (fT op).imm).number (putF (fT op).imm i.imm) :=
    number_own hf.imm fun q hq ho => P q hq 7 (by omega) ho
  have e5 : (if (fT op).csr then fldZ (wordI (matT op) (fT op) i) 31 20 else 0) = if (fT op).csr then (formL 8).number (putF 8 i.csr) else 0 := by
    cases h : (fT op).csr
    · rfl
    · rw [if_pos rfl, if_pos rfl, csr_number]
      exact number_own (by omega) fun q hq ho => P q hq 6 (by omega) (by show ((fT op).csr && tb ((formL 8).word (-1)) q) = true; rw [h, ho]; rfl)
  have e6 : ((fT op).ord && fldZ (wordI (matT op) (fT op) i) 26 26 == 1) = ((fT op).ord && i.aq) := by
    cases h : (fT op).ord
    · rfl
    · rw [Bool.true_and, Bool.true_and]
      exact (bit_at _ 26 (by omega)).trans (P 26 (by omega) 4 (by omega) (by show ((fT op).ord && decide (26 = 26)) = true; rw [h]; rfl))
  have e7 : ((fT op).ord && fldZ (wordI (matT op) (fT op) i) 25 25 == 1) = ((fT op).ord && i.rl) := by
    cases h : (fT op).ord
    · rfl
    · rw [Bool.true_and, Bool.true_and]
      exact (bit_at _ 25 (by omega)).trans (P 25 (by omega) 5 (by omega) (by show ((fT op).ord && decide (25 = 25)) = true; rw [h]; rfl))
  unfold says
  rw [e1, e2, e3, e4, e5, e6, e7]
/-- An instruction is right. -/
structure Right (f : Frm) (i : Ins) : Prop where
  rd : 0 ≤ i.rd ∧ i.rd ≤ 31
  a : 0 ≤ i.a ∧ i.a ≤ 31
  b : 0 ≤ i.b ∧ i.b ≤ 31
  csr : 0 ≤ i.csr ∧ i.csr ≤ 4095
  nrd : f.rd = false → i.rd = 0
  na : f.a = false → i.a = 0
  nb : f.b = false → i.b = 0
  ncsr : f.csr = false → i.csr = 0
  nord : f.ord = false → i.aq = false ∧ i.rl = false
  imm : (formL f.imm).number ((formL f.imm).word i.imm) = i.imm
theorem fit_csr (n : Int) : ((formL 8).number ((formL 8).word n) = n) ↔ (0 ≤ n ∧ n ≤ 4095) := by
  have h := (formOk 8 (by omega)).fits (form_len 8 (by omega)) n
  rw [form_sg 8 (by omega)] at h
  have hb : (List.range (formP 8).length).any (badAt n (formP 8)) = false := by
    rw [List.any_eq_false]
    intro j hj
    have c : ∀ j, j < 12 → decide ((formP 8).getD j 0 < 0) = false := by decide +kernel
    have hl : (formP 8).length = 12 := by decide
    unfold badAt
    rw [c j (by have := List.mem_range.1 hj; omega)]; simp
  have hd : fitsD n (decide (8 ≤ 5)) (formP 8) = decide (0 ≤ n ∧ n ≤ 4095) := by
    unfold fitsD
    rw [hb, show (decide (8 ≤ 5)) = false from rfl, show (formP 8).length = 12 by decide]
    simp only [Bool.not_false, Bool.and_true, Bool.false_eq_true, if_false]
    rw [decide_eq_decide, show (2 : Int) ^ 12 = 4096 from rfl]; omega
  rw [hd] at h
  constructor
  · intro e
    rw [beq_iff_eq.2 e] at h
    exact of_decide_eq_true h.symm
  · intro e
    rw [decide_eq_true e] at h
    exact beq_iff_eq.1 h
theorem putF_fit {k : Nat} (hk : k ≤ 9) {n : Int} : ((formL k).number (putF k n) = n) ↔ ((formL k).number ((formL k).word n) = n) := by
  unfold putF
  cases h : ((formL k).number ((formL k).word n) == n)
  · simp only [Bool.false_eq_true, if_false]
    rw [(num_zero k hk).1]
    have h' := beq_eq_false_iff_ne.1 h
    constructor
    · intro e; subst e; rw [(num_zero k hk).2, (num_zero k hk).1]
    · intro e; exact absurd e h'
  · simp
theorem right_iff {op : Nat} (h1 : 1 ≤ op) (h2 : op < 114) (i : Ins) : says (fT op) i.op (wordI (matT op) (fT op) i) = i ↔ Right (fT op) i := by
  have hi := (fT_ok h1 h2).imm
  rw [says_word h1 h2]
  obtain ⟨op', rd, a, b, imm, csr, aq, rl⟩ := i
  simp only [Ins.mk.injEq, true_and]
  generalize fT op = f at *
  constructor
  · rintro ⟨e1, e2, e3, e4, e5, e6, e7⟩
    have c : 0 ≤ csr ∧ csr ≤ 4095 := by
      cases h : f.csr
      · rw [h] at e5; simp at e5; omega
      · rw [h, if_pos rfl] at e5
        exact (fit_csr csr).1 ((putF_fit (by omega)).1 e5)
    refine ⟨?_, ?_, ?_, c, ?_, ?_, ?_, ?_, ?_, (putF_fit hi).1 e4⟩
    · show 0 ≤ rd ∧ rd ≤ 31; split at e1 <;> omega
    · show 0 ≤ a ∧ a ≤ 31; split at e2 <;> omega
    · show 0 ≤ b ∧ b ≤ 31; split at e3 <;> omega
    · intro h; rw [h] at e1; simp at e1; exact e1.symm
    · intro h; rw [h] at e2; simp at e2; exact e2.symm
    · intro h; rw [h] at e3; simp at e3; exact e3.symm
    · intro h; rw [h] at e5; simp at e5; exact e5.symm
    · intro h; rw [h] at e6 e7; exact ⟨e6.symm, e7.symm⟩
  · rintro ⟨r1, r2, r3, r4, r5, r6, r7, r8, r9, r10⟩
    simp only at r1 r2 r3 r4 r5 r6 r7 r8 r9 r10
    refine ⟨?_, ?_, ?_, (putF_fit hi).2 r10, ?_, ?_, ?_⟩
    · cases h : f.rd
      · rw [r5 h]; rfl
      · rw [if_pos rfl]; omega
    · cases h : f.a
      · rw [r6 h]; rfl
      · rw [if_pos rfl]; omega
    · cases h : f.b
      · rw [r7 h]; rfl
      · rw [if_pos rfl]; omega
    · cases h : f.csr
      · rw [r8 h]; rfl
      · rw [if_pos rfl]; exact (putF_fit (by omega)).2 ((fit_csr csr).2 r4)
    · cases h : f.ord
      · rw [(r9 h).1]; rfl
      · rfl
    · cases h : f.ord
      · rw [(r9 h).2]; rfl
      · rfl

/-- The document's word. -/
def wD (m : Nat) (k : Nat) (i : Ins) : Int :=
  bits .or .u32 (bits .or .u32 (bits .or .u32 (bits .or .u32 (bits .or .u32 (bits .or .u32 (bits .or .u32 m (i.rd * 128)) (i.a * 32768)) (i.b * 1048576)) (i.csr * 1048576)) (markZ i.aq 26)) (markZ i.rl 25)) (putF k i.imm)
theorem or_zero32 {x : Int} (hx : In32 x) : bits .or .u32 x 0 = x :=
  ext32 (or_in _ _) hx fun q hq => by rw [tb_or hq, tb_zero, Bool.or_false]
theorem tb_hi {n : Int} {s : Nat} (h0 : 0 ≤ n) (h1 : n < 2 ^ s) {q : Nat} (hq : s ≤ q) : tb n q = false := by
  unfold tb
  have h2 : (2 : Int) ^ s ≤ 2 ^ q := by exact_mod_cast Nat.pow_le_pow_right (by omega) hq
  rw [Int.ediv_eq_zero_of_lt h0 (by omega)]; rfl
theorem csr_word {n : Int} (h0 : 0 ≤ n) (h1 : n ≤ 4095) {q : Nat} (hq : q < 32) : tb (putF 8 n) q = (decide (20 ≤ q) && tb n (q - 20)) := by
  have e : putF 8 n = (formL 8).word n := by unfold putF; rw [beq_iff_eq.2 ((fit_csr n).2 ⟨h0, h1⟩)]; rfl
  have hs : ∀ q, q < 32 → (formL 8).src q = if 20 ≤ q then [q - 20] else [] := by decide +kernel
  rw [e, (formL 8).word_src (formL_ok 8 (by omega)) n hq, hs q hq]
  by_cases c : 20 ≤ q
  · rw [if_pos c, decide_eq_true c]; simp
  · rw [if_neg c, decide_eq_false c]; rfl
theorem put5_shl {n : Int} (h0 : 0 ≤ n) (h1 : n ≤ 31) (s : Nat) {q : Nat} (hq : q < 32) : tb (put5 n s) q = (decide (s ≤ q) && tb n (q - s)) := by
  rw [put5_tb _ _ hq]
  by_cases c : s ≤ q ∧ q < s + 5
  · rw [decide_eq_true c, decide_eq_true c.1]
  · rw [decide_eq_false c, Bool.false_and]
    by_cases d : s ≤ q
    · rw [tb_hi (s := 5) h0 (by omega) (by omega)]; simp
    · rw [decide_eq_false d]; rfl
theorem wD_word {op : Nat} (i : Ins) (h : Right (fT op) i) : wD (matT op) (fT op).imm i = wordI (matT op) (fT op) i := by
  refine ext32 (or_in _ _) (or_in _ _) fun q hq => ?_
  unfold wD wordI wF w5 w4 w3 w2 w1
  rw [tb_or hq, tb_or hq, tb_or hq, tb_or hq, tb_or hq, tb_or hq, tb_or hq, tb_or hq, tb_or hq, tb_if hq, tb_if hq, tb_or hq, tb_if hq, tb_if hq, tb_if hq, tb_zero]
  rw [put5_shl h.rd.1 h.rd.2 7 hq, put5_shl h.a.1 h.a.2 15 hq, put5_shl h.b.1 h.b.2 20 hq, csr_word h.csr.1 h.csr.2 hq]
  rw [show (128 : Int) = 2 ^ 7 from rfl, show (32768 : Int) = 2 ^ 15 from rfl, show (1048576 : Int) = 2 ^ 20 from rfl, tb_mul, tb_mul, tb_mul, tb_mul]
  have z1 : ((fT op).rd && (decide (7 ≤ q) && tb i.rd (q - 7))) = (decide (7 ≤ q) && tb i.rd (q - 7)) := by
    cases c : (fT op).rd
    · rw [h.nrd c, tb_zero]; simp
    · rfl
  have z2 : ((fT op).a && (decide (15 ≤ q) && tb i.a (q - 15))) = (decide (15 ≤ q) && tb i.a (q - 15)) := by
    cases c : (fT op).a
    · rw [h.na c, tb_zero]; simp
    · rfl
  have z3 : ((fT op).b && (decide (20 ≤ q) && tb i.b (q - 20))) = (decide (20 ≤ q) && tb i.b (q - 20)) := by
    cases c : (fT op).b
    · rw [h.nb c, tb_zero]; simp
    · rfl
  have z4 : ((fT op).csr && (decide (20 ≤ q) && tb i.csr (q - 20))) = (decide (20 ≤ q) && tb i.csr (q - 20)) := by
    cases c : (fT op).csr
    · rw [h.ncsr c, tb_zero]; simp
    · rfl
  have z5 : ((fT op).ord && (tb (markZ i.aq 26) q || tb (markZ i.rl 25) q)) = (tb (markZ i.aq 26) q || tb (markZ i.rl 25) q) := by
    cases c : (fT op).ord
    · rw [(h.nord c).1, (h.nord c).2, markZ_tb, markZ_tb]; simp
    · rfl
  rw [z1, z2, z3, z4, z5]
  simp only [Bool.false_or, Bool.or_assoc]
  generalize tb (matT op : Int) q = b0
  generalize (decide (7 ≤ q) && tb i.rd (q - 7)) = b1
  generalize (decide (15 ≤ q) && tb i.a (q - 15)) = b2
  generalize (decide (20 ≤ q) && tb i.b (q - 20)) = b3
  generalize (decide (20 ≤ q) && tb i.csr (q - 20)) = b4
  generalize tb (markZ i.aq 26) q = b5
  generalize tb (markZ i.rl 25) q = b6
  generalize tb (putF (fT op).imm i.imm) q = b7
  revert b0 b1 b2 b3 b4 b5 b6 b7
  decide

end Go.Proofs.YtehlihhnkojjeaaDoor
