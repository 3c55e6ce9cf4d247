/- Layer 12: legal harts: fixing makes one, and leaves one; writing keeps one. Plain maths. -/
import Derived.Test.YtkfhpmleelmcfaaCsN
namespace Go.Proofs.Ytkfhpmleelmcfaa
open Go.RowKit
set_option linter.unusedVariables false
set_option maxRecDepth 100000

theorem bit_merge (o m v : Int) (i : Nat) (hi : i < 64) : (V (mergeZ o m v)).getLsbD i = if (V m).getLsbD i then (V v).getLsbD i else (V o).getLsbD i := by
  unfold mergeZ
  rw [bits_or, V_U, bits_andNot, bits_and, V_U, V_U]
  simp only [BitVec.getLsbD_or, BitVec.getLsbD_and, BitVec.getLsbD_not, decide_eq_true hi, Bool.true_and]
  cases (V m).getLsbD i <;> simp
/-- Bits beside the mask are those that are set. -/
def Out (x m s : Int) : Prop := ∀ i, i < 64 → (V m).getLsbD i = false → (V x).getLsbD i = (V s).getLsbD i
theorem Out.mask {x m s : Int} (hx : In64 x) (h : Out x m s) (hd : ∀ i, i < 64 → (V s).getLsbD i = true → (V m).getLsbD i = false) : bits .or .u64 (bits .and .u64 x m) s = x := by
  refine U_ext (or_in _ _) hx fun i hi => ?_
  rw [bits_or, V_U, bits_and, V_U]
  simp only [BitVec.getLsbD_or, BitVec.getLsbD_and]
  have h1 := h i hi
  have h2 := hd i hi
  cases hm : (V m).getLsbD i
  · rw [h1 hm]; simp
  · cases hs : (V s).getLsbD i
    · simp
    · rw [h2 hs] at hm; cases hm
theorem Out.of_mask (x m s : Int) : Out (bits .or .u64 (bits .and .u64 x m) s) m s := fun i hi hm => by
  rw [bits_or, V_U, bits_and, V_U]
  simp only [BitVec.getLsbD_or, BitVec.getLsbD_and, hm]
  simp
theorem Out.merge {x m s m' v : Int} (h : Out x m s) (hm : ∀ i, i < 64 → (V m').getLsbD i = true → (V m).getLsbD i = true) : Out (mergeZ x m' v) m s := fun i hi hq => by
  rw [bit_merge _ _ _ i hi]
  have := hm i hi
  cases c : (V m').getLsbD i
  · exact h i hi hq
  · rw [this c] at hq; cases hq
theorem merge_same {x m y : Int} (hx : In64 x) (h : ∀ i, i < 64 → (V m).getLsbD i = true → (V y).getLsbD i = (V x).getLsbD i) : mergeZ x m y = x := by
  refine U_ext (merge_in _ _ _) hx fun i hi => ?_
  rw [bit_merge _ _ _ i hi]
  cases c : (V m).getLsbD i
  · rfl
  · exact h i hi c
theorem sub_and (a b : Int) (m : Int) (h : ∀ i, i < 64 → (V a).getLsbD i = true → (V m).getLsbD i = true) : ∀ i, i < 64 → (V (bits .and .u64 a b)).getLsbD i = true → (V m).getLsbD i = true := fun i hi c => by
  rw [bits_and, V_U, BitVec.getLsbD_and, Bool.and_eq_true] at c
  exact h i hi c.1
theorem msk_dis : ∀ k, k < 38 → ∀ i, i < 64 → (V (seF k)).getLsbD i = true → (V (mkF k)).getLsbD i = false := by decide +kernel

/-- A legal hart. -/
structure Lgl (s : HS) : Prop where
  out : ∀ k, k < 38 → Out (s.n (clF k)) (mkF k) (seF k)
  mode : noModeB (s.n 38) = false
  t57 : noTabB (s.n 57) = false
  t66 : noTabB (s.n 66) = false
  t74 : noTabB (s.n 74) = false
  mip : Out (s.n 42) 546 0
  pc : bits .andNot .u64 (s.n 0) 3 = s.n 0
  x0 : s.n 1 = 0
  priv : s.n 33 = 0 ∨ s.n 33 = 1 ∨ s.n 33 = 3
  vm : (s.v && (s.n 33 != 3)) = s.v
  res : (if s.held then bits .and .u64 (s.n 37) 72057594037927928 else 0) = s.n 37
theorem out_zero (m : Int) : Out 0 m 0 := fun i _ _ => rfl
theorem and_and_same (x c : Int) : bits .and .u64 (bits .and .u64 x c) c = bits .and .u64 x c := by
  rw [bits_and, bits_and, V_U, BitVec.and_assoc, BitVec.and_self]
theorem andNot_same (x c : Int) : bits .andNot .u64 (bits .andNot .u64 x c) c = bits .andNot .u64 x c := by
  rw [bits_andNot, bits_andNot, V_U, BitVec.and_assoc, BitVec.and_self]
theorem noMode_clr (x : Int) : noModeB (bits .andNot .u64 x 6144) = false := by
  rw [noMode_bits]
  unfold bitZ
  rw [bits_andNot, V_U]
  rw [show V 6144 = BitVec.twoPow 64 12 ||| BitVec.twoPow 64 11 by decide +kernel]
  simp [BitVec.getLsbD_twoPow]
theorem out_clr (x : Int) : Out (bits .andNot .u64 (maskZ 0 x) 6144) (mkF 0) (seF 0) := fun i hi hm => by
  have h := Out.of_mask x (mkF 0) (seF 0) i hi hm
  rw [bits_andNot, V_U]
  simp only [BitVec.getLsbD_and, BitVec.getLsbD_not, decide_eq_true hi, Bool.true_and]
  have q : (V 6144).getLsbD i = false := by
    cases c : (V 6144).getLsbD i
    · rfl
    · rw [(by decide +kernel : ∀ i, i < 64 → (V 6144).getLsbD i = true → (V (mkF 0)).getLsbD i = true) i hi c] at hm; cases hm
  rw [q]
  show ((V (maskZ 0 x)).getLsbD i && true) = _
  rw [Bool.and_true]; exact h
theorem noTab_zero : noTabB 0 = false := rfl
theorem fixN_tab (t : HS) {i k : Nat} (h : (i = 57 ∧ k = 20) ∨ (i = 66 ∧ k = 29) ∨ (i = 74 ∧ k = 37)) : fixN t i = if noTabB (maskZ k (t.n i)) then 0 else maskZ k (t.n i) := by
  rcases h with ⟨rfl, rfl⟩ | ⟨rfl, rfl⟩ | ⟨rfl, rfl⟩ <;> rfl
theorem hn_all : ∀ k, k < 38 → (k = 0 ∨ (k = 20 ∨ k = 29 ∨ k = 37)) ∨ (clF k ≠ 0 ∧ clF k ≠ 1 ∧ clF k ≠ 33 ∧ clF k ≠ 37 ∧ clF k ≠ 42 ∧ clF k ≠ 38 ∧ clF k ≠ 57 ∧ clF k ≠ 66 ∧ clF k ≠ 74 ∧ icF (clF k) < 38) := by
  intro k hk
  match k, hk with
  | 0, _ => first | exact .inl (by decide) | exact .inr (by decide +kernel)
  | 1, _ => first | exact .inl (by decide) | exact .inr (by decide +kernel)
  | 2, _ => first | exact .inl (by decide) | exact .inr (by decide +kernel)
  | 3, _ => first | exact .inl (by decide) | exact .inr (by decide +kernel)
  | 4, _ => first | exact .inl (by decide) | exact .inr (by decide +kernel)
  | 5, _ => first | exact .inl (by decide) | exact .inr (by decide +kernel)
  | 6, _ => first | exact .inl (by decide) | exact .inr (by decide +kernel)
  | 7, _ => first | exact .inl (by decide) | exact .inr (by decide +kernel)
  | 8, _ => first | exact .inl (by decide) | exact .inr (by decide +kernel)
  | 9, _ => first | exact .inl (by decide) | exact .inr (by decide +kernel)
  | 10, _ => first | exact .inl (by decide) | exact .inr (by decide +kernel)
  | 11, _ => first | exact .inl (by decide) | exact .inr (by decide +kernel)
  | 12, _ => first | exact .inl (by decide) | exact .inr (by decide +kernel)
  | 13, _ => first | exact .inl (by decide) | exact .inr (by decide +kernel)
  | 14, _ => first | exact .inl (by decide) | exact .inr (by decide +kernel)
  | 15, _ => first | exact .inl (by decide) | exact .inr (by decide +kernel)
  | 16, _ => first | exact .inl (by decide) | exact .inr (by decide +kernel)
  | 17, _ => first | exact .inl (by decide) | exact .inr (by decide +kernel)
  | 18, _ => first | exact .inl (by decide) | exact .inr (by decide +kernel)
  | 19, _ => first | exact .inl (by decide) | exact .inr (by decide +kernel)
  | 20, _ => first | exact .inl (by decide) | exact .inr (by decide +kernel)
  | 21, _ => first | exact .inl (by decide) | exact .inr (by decide +kernel)
  | 22, _ => first | exact .inl (by decide) | exact .inr (by decide +kernel)
  | 23, _ => first | exact .inl (by decide) | exact .inr (by decide +kernel)
  | 24, _ => first | exact .inl (by decide) | exact .inr (by decide +kernel)
  | 25, _ => first | exact .inl (by decide) | exact .inr (by decide +kernel)
  | 26, _ => first | exact .inl (by decide) | exact .inr (by decide +kernel)
  | 27, _ => first | exact .inl (by decide) | exact .inr (by decide +kernel)
  | 28, _ => first | exact .inl (by decide) | exact .inr (by decide +kernel)
  | 29, _ => first | exact .inl (by decide) | exact .inr (by decide +kernel)
  | 30, _ => first | exact .inl (by decide) | exact .inr (by decide +kernel)
  | 31, _ => first | exact .inl (by decide) | exact .inr (by decide +kernel)
  | 32, _ => first | exact .inl (by decide) | exact .inr (by decide +kernel)
  | 33, _ => first | exact .inl (by decide) | exact .inr (by decide +kernel)
  | 34, _ => first | exact .inl (by decide) | exact .inr (by decide +kernel)
  | 35, _ => first | exact .inl (by decide) | exact .inr (by decide +kernel)
  | 36, _ => first | exact .inl (by decide) | exact .inr (by decide +kernel)
  | 37, _ => first | exact .inl (by decide) | exact .inr (by decide +kernel)
  | k + 38, h => exact absurd h (by omega)
theorem lgl_fix {t : HS} (ok : HOk t) : Lgl (fixZ t) where
  out k hk := by
    show Out (fixN t (clF k)) (mkF k) (seF k)
    by_cases h0 : k = 0
    · subst h0
      show Out (if noModeB (maskZ 0 (t.n 38)) then bits .andNot .u64 (maskZ 0 (t.n 38)) 6144 else maskZ 0 (t.n 38)) _ _
      cases noModeB (maskZ 0 (t.n 38))
      · exact Out.of_mask _ _ _
      · exact out_clr _
    by_cases h1 : k = 20 ∨ k = 29 ∨ k = 37
    · have e : fixN t (clF k) = if noTabB (maskZ k (t.n (clF k))) then 0 else maskZ k (t.n (clF k)) := by
        rcases h1 with rfl | rfl | rfl <;> rfl
      have z : seF k = 0 := by rcases h1 with rfl | rfl | rfl <;> rfl
      rw [e]
      cases noTabB (maskZ k (t.n (clF k)))
      · exact Out.of_mask _ _ _
      · rw [z]; exact out_zero _
    have e : fixN t (clF k) = maskZ k (t.n (clF k)) := by
      have := fixN_msk t (i := clF k) (by
        exact (hn_all k hk).resolve_left (fun q => q.elim h0 h1))
      rw [icF_cl k hk] at this; exact this
    rw [e]; exact Out.of_mask _ _ _
  mode := by
    show noModeB (if noModeB (maskZ 0 (t.n 38)) then bits .andNot .u64 (maskZ 0 (t.n 38)) 6144 else maskZ 0 (t.n 38)) = false
    cases h : noModeB (maskZ 0 (t.n 38))
    · exact h
    · exact noMode_clr _
  t57 := by
    show noTabB (if noTabB (maskZ 20 (t.n 57)) then 0 else maskZ 20 (t.n 57)) = false
    cases h : noTabB (maskZ 20 (t.n 57))
    · exact h
    · rfl
  t66 := by
    show noTabB (if noTabB (maskZ 29 (t.n 66)) then 0 else maskZ 29 (t.n 66)) = false
    cases h : noTabB (maskZ 29 (t.n 66))
    · exact h
    · rfl
  t74 := by
    show noTabB (if noTabB (maskZ 37 (t.n 74)) then 0 else maskZ 37 (t.n 74)) = false
    cases h : noTabB (maskZ 37 (t.n 74))
    · exact h
    · rfl
  mip := by
    show Out (bits .and .u64 (t.n 42) 546) 546 0
    have := Out.of_mask (t.n 42) 546 0
    rw [or_zero (and_in _ _)] at this; exact this
  pc := andNot_same _ _
  x0 := rfl
  priv := by
    show (if t.n 33 = 1 ∨ t.n 33 = 3 then t.n 33 else 0) = 0 ∨ (if t.n 33 = 1 ∨ t.n 33 = 3 then t.n 33 else 0) = 1 ∨ (if t.n 33 = 1 ∨ t.n 33 = 3 then t.n 33 else 0) = 3
    by_cases h : t.n 33 = 1 ∨ t.n 33 = 3
    · rw [if_pos h]; exact .inr h
    · rw [if_neg h]; exact .inl rfl
  vm := by
    show ((t.v && (t.n 33 != 3)) && ((if t.n 33 = 1 ∨ t.n 33 = 3 then t.n 33 else 0) != 3)) = (t.v && (t.n 33 != 3))
    by_cases h : t.n 33 = 1 ∨ t.n 33 = 3
    · rw [if_pos h]; cases t.v <;> cases (t.n 33 != 3) <;> rfl
    · rw [if_neg h]; cases t.v <;> cases (t.n 33 != 3) <;> rfl
  res := by
    show (if t.held then bits .and .u64 (if t.held then bits .and .u64 (t.n 37) 72057594037927928 else 0) 72057594037927928 else 0) = (if t.held then bits .and .u64 (t.n 37) 72057594037927928 else 0)
    cases t.held
    · rfl
    · exact and_and_same _ _
/-- A legal hart is its own Fix. -/
theorem fix_of_lgl {s : HS} (ok : HOk s) (h : Lgl s) : fixZ s = s := by
  have hm : ∀ k, k < 38 → maskZ k (s.n (clF k)) = s.n (clF k) := fun k hk => (h.out k hk).mask (ok.n _) (msk_dis k hk)
  have m0 : maskZ 0 (s.n 38) = s.n 38 := hm 0 (by decide)
  have m20 : maskZ 20 (s.n 57) = s.n 57 := hm 20 (by decide)
  have m29 : maskZ 29 (s.n 66) = s.n 66 := hm 29 (by decide)
  have m37 : maskZ 37 (s.n 74) = s.n 74 := hm 37 (by decide)
  have hN : ∀ i, s.n i = fixN s i := fun i => by
    unfold fixN
    by_cases c0 : i = 0
    · subst c0; rw [if_pos rfl]; exact h.pc.symm
    rw [if_neg c0]
    by_cases c1 : i = 1
    · subst c1; rw [if_pos rfl]; exact h.x0
    rw [if_neg c1]
    by_cases c2 : i = 33
    · subst c2; rw [if_pos rfl]
      rcases h.priv with q | q | q
      · rw [q]; rfl
      · rw [q]; rfl
      · rw [q]; rfl
    rw [if_neg c2]
    by_cases c3 : i = 37
    · subst c3; rw [if_pos rfl]; exact h.res.symm
    rw [if_neg c3]
    by_cases c4 : i = 42
    · subst c4; rw [if_pos rfl]
      have := h.mip.mask (ok.n _) (fun i _ q => by rw [V_zero] at q; simp at q)
      rw [or_zero (and_in _ _)] at this; exact this.symm
    rw [if_neg c4]
    by_cases c5 : i = 38
    · subst c5; rw [if_pos rfl, m0, h.mode]; rfl
    rw [if_neg c5]
    by_cases c6 : i = 57
    · subst c6; rw [if_pos rfl, m20, h.t57]; rfl
    rw [if_neg c6]
    by_cases c7 : i = 66
    · subst c7; rw [if_pos rfl, m29, h.t66]; rfl
    rw [if_neg c7]
    by_cases c8 : i = 74
    · subst c8; rw [if_pos rfl, m37, h.t74]; rfl
    rw [if_neg c8]
    by_cases c9 : icF i < 38
    · rw [if_pos c9]
      have := hm _ c9
      rw [icF_at c9] at this; exact this.symm
    · rw [if_neg c9]
  exact (fixZ_eq h.vm.symm rfl rfl hN).symm
theorem fix_fix {t : HS} (ok : HOk t) : fixZ (fixZ t) = fixZ t := fix_of_lgl (ok_fix ok) (lgl_fix ok)
end Go.Proofs.Ytkfhpmleelmcfaa
