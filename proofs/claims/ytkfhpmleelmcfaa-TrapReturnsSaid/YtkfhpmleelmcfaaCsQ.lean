/- Layer 12: writing keeps a hart legal; writing what set and clear begin with changes nothing of a legal one. Plain maths. -/
import Derived.Test.YtkfhpmleelmcfaaCsP
namespace Go.Proofs.Ytkfhpmleelmcfaa
open Go.RowKit
set_option linter.unusedVariables false
set_option maxRecDepth 100000

theorem HS.put_at (t : HS) (c : Nat) (x : Int) (i : Nat) : (t.put c x).n i = if i = c then x else t.n i := rfl
theorem clF_inj {k j : Nat} (hk : k < 38) (hj : j < 38) (h : clF k = clF j) : k = j := by rw [← icF_cl k hk, h, icF_cl j hj]
/-- One field of a legal hart turned. -/
theorem lgl_put {s : HS} (h : Lgl s) {k : Nat} (hk : k < 38) {x : Int} (ho : Out x (mkF k) (seF k)) (hm : k = 0 → noModeB x = false) (ht : k = 20 ∨ k = 29 ∨ k = 37 → noTabB x = false) : Lgl (s.put (clF k) x) := by
  obtain ⟨c1, c2, c3⟩ := clF_in k hk
  have e38 : (38 = clF k) → k = 0 := fun e => clF_inj hk (by decide) (e.symm.trans (by rfl))
  have e57 : (57 = clF k) → k = 20 := fun e => clF_inj hk (by decide) (e.symm.trans (by rfl))
  have e66 : (66 = clF k) → k = 29 := fun e => clF_inj hk (by decide) (e.symm.trans (by rfl))
  have e74 : (74 = clF k) → k = 37 := fun e => clF_inj hk (by decide) (e.symm.trans (by rfl))
  constructor
  · intro j hj
    rw [HS.put_at]
    by_cases e : clF j = clF k
    · rw [if_pos e, clF_inj hj hk e]; exact ho
    · rw [if_neg e]; exact h.out j hj
  · rw [HS.put_at]
    by_cases e : 38 = clF k
    · rw [if_pos e]; exact hm (e38 e)
    · rw [if_neg e]; exact h.mode
  · rw [HS.put_at]
    by_cases e : 57 = clF k
    · rw [if_pos e]; exact ht (.inl (e57 e))
    · rw [if_neg e]; exact h.t57
  · rw [HS.put_at]
    by_cases e : 66 = clF k
    · rw [if_pos e]; exact ht (.inr (.inl (e66 e)))
    · rw [if_neg e]; exact h.t66
  · rw [HS.put_at]
    by_cases e : 74 = clF k
    · rw [if_pos e]; exact ht (.inr (.inr (e74 e)))
    · rw [if_neg e]; exact h.t74
  · rw [HS.put_at, if_neg (fun e => c3 e.symm)]; exact h.mip
  · rw [HS.put_at, if_neg (by omega)]; exact h.pc
  · rw [HS.put_at, if_neg (by omega)]; exact h.x0
  · rw [HS.put_at, if_neg (by omega)]; exact h.priv
  · show (s.v && ((s.put (clF k) x).n 33 != 3)) = s.v
    rw [HS.put_at, if_neg (by omega)]; exact h.vm
  · show (if s.held then bits .and .u64 ((s.put (clF k) x).n 37) 72057594037927928 else 0) = (s.put (clF k) x).n 37
    have e : (s.put (clF k) x).n 37 = s.n 37 := by rw [HS.put_at, if_neg (by omega)]
    rw [e]; exact h.res
theorem lgl_mip {s : HS} (h : Lgl s) {x : Int} (ho : Out x 546 0) : Lgl (s.put 42 x) := by
  constructor
  · intro j hj
    obtain ⟨_, _, c3⟩ := clF_in j hj
    rw [HS.put_at, if_neg c3]; exact h.out j hj
  · exact h.mode
  · exact h.t57
  · exact h.t66
  · exact h.t74
  · exact ho
  · exact h.pc
  · exact h.x0
  · exact h.priv
  · exact h.vm
  · exact h.res
theorem sub_mode (o m v : Int) (h : ∀ i, i < 64 → (V m).getLsbD i = true → (V 6144).getLsbD i = false) : noModeB (mergeZ o m v) = noModeB o := by
  rw [noMode_bits, noMode_bits]
  unfold bitZ
  rw [bit_merge _ _ _ 12 (by decide), bit_merge _ _ _ 11 (by decide)]
  have h12 := h 12 (by decide)
  have h11 := h 11 (by decide)
  rw [show (V 6144).getLsbD 12 = true by decide +kernel] at h12
  rw [show (V 6144).getLsbD 11 = true by decide +kernel] at h11
  cases c : (V m).getLsbD 12
  · cases d : (V m).getLsbD 11
    · rfl
    · exact absurd (h11 d) (by decide)
  · exact absurd (h12 c) (by decide)
theorem all_mode (o m v : Int) (h12 : (V m).getLsbD 12 = true) (h11 : (V m).getLsbD 11 = true) : noModeB (mergeZ o m v) = noModeB v := by
  rw [noMode_bits, noMode_bits]
  unfold bitZ
  rw [bit_merge _ _ _ 12 (by decide), bit_merge _ _ _ 11 (by decide), h12, h11]; rfl
theorem all_tab (o m v : Int) (hv : In64 v) (h : ∀ i, 60 ≤ i → i < 64 → (V m).getLsbD i = true) : noTabB (mergeZ o m v) = noTabB v := by
  have e : V (mergeZ o m v) >>> 60 = V v >>> 60 := by
    apply ext64
    intro i hi
    simp only [BitVec.getLsbD_ushiftRight]
    by_cases q : 60 + i < 64
    · rw [bit_merge _ _ _ _ q, h _ (by omega) q]; rfl
    · rw [bit_of_ge _ (by omega), bit_of_ge _ (by omega)]
  have k1 := noTab_sh (V (mergeZ o m v))
  rw [U_V (merge_in _ _ _)] at k1
  have k2 := noTab_sh (V v)
  rw [U_V hv] at k2
  rw [k1, k2, e]
theorem m_sub0 : ∀ i, i < 64 → (V (bits .andNot .u64 (mkF 0) 6144)).getLsbD i = true → (V (mkF 0)).getLsbD i = true := by decide +kernel
theorem m_sub1 : ∀ i, i < 64 → (V (bits .andNot .u64 (mkF 0) 6144)).getLsbD i = true → (V 6144).getLsbD i = false := by decide +kernel
theorem m_tab : ∀ k, k < 38 → (k = 20 ∨ k = 37 ∨ k = 29) → ∀ i, i < 64 → 60 ≤ i → (V (mkF k)).getLsbD i = true := by
  rintro k hk (rfl | rfl | rfl) <;> decide +kernel
/-- A field of a legal hart, put. -/
theorem lgl_field {s : HS} (ok : HOk s) (h : Lgl s) {k : Nat} (hk : k < 38) {v : Int} (hv : In64 v) : Lgl (s.put (clF k) (putZ k (s.n (clF k)) v)) := by
  by_cases h0 : k = 0
  · subst h0
    rw [putZ_zero]
    cases q : noModeB v
    · refine lgl_put h hk (Out.merge (h.out 0 hk) (fun _ _ c => c)) (fun _ => ?_) (fun e => by omega)
      rw [all_mode _ _ _ (by decide +kernel) (by decide +kernel)]; exact q
    · refine lgl_put h hk (Out.merge (h.out 0 hk) m_sub0) (fun _ => ?_) (fun e => by omega)
      exact (sub_mode _ _ _ m_sub1).trans h.mode
  by_cases h1 : k = 20 ∨ k = 37 ∨ k = 29
  · cases q : noTabB v
    · rw [putZ_tab k ⟨h0, h1⟩ _ _ q]
      refine lgl_put h hk (Out.merge (h.out k hk) (fun _ _ c => c)) (fun e => absurd e h0) (fun _ => ?_)
      rw [all_tab _ _ _ hv (fun i h60 h64 => m_tab k hk h1 i h64 h60)]; exact q
    · rw [putZ_no k ⟨h0, h1⟩ _ _ q, HS.put_self]; exact h
  · rw [putZ_oth k ⟨h0, h1⟩]
    exact lgl_put h hk (Out.merge (h.out k hk) (fun _ _ c => c)) (fun e => absurd e h0) (fun e => absurd (by omega) h1)
theorem s_786722 : ∀ i, i < 64 → (V 786722).getLsbD i = true → (V (mkF 0)).getLsbD i = true ∧ (V 6144).getLsbD i = false := by decide +kernel
theorem s_4 : ∀ i, i < 64 → (V 4).getLsbD i = true → (V (mkF 24)).getLsbD i = true := by decide +kernel
theorem s_2 : ∀ i, i < 64 → (V 2).getLsbD i = true → (V 546).getLsbD i = true := by decide +kernel
theorem s_546 : ∀ i, i < 64 → (V 546).getLsbD i = true → (V (mkF 3)).getLsbD i = true := by decide +kernel
theorem s_5188 : ∀ i, i < 64 → (V 5188).getLsbD i = true → (V (mkF 3)).getLsbD i = true := by decide +kernel
theorem s_1092 : ∀ i, i < 64 → (V 1092).getLsbD i = true → (V (mkF 3)).getLsbD i = true := by decide +kernel
/-- Whatever is written into a legal hart, it is legal. -/
theorem lgl_write {s : HS} (ok : HOk s) (h : Lgl s) (no : Int) {v : Int} (hv : In64 v) : Lgl (writeZ s no v) := by
  unfold writeZ writeM
  generalize meantZ s.v no = m
  by_cases hx : ixF m < 38
  · rw [if_pos hx]; exact lgl_field ok h hx hv
  rw [if_neg hx]
  have p61 : ∀ (m' v' : Int), (∀ i, i < 64 → (V m').getLsbD i = true → (V (mkF 24)).getLsbD i = true) → ∀ s : HS, Lgl s → Lgl (s.put 61 (mergeZ (s.n 61) m' v')) := fun m' v' hm s h => lgl_put (k := 24) h (by decide) (Out.merge (h.out 24 (by decide)) hm) (fun e => by omega) (fun e => by omega)
  have p41 : ∀ (m' v' : Int), (∀ i, i < 64 → (V m').getLsbD i = true → (V (mkF 3)).getLsbD i = true) → ∀ s : HS, Lgl s → Lgl (s.put 41 (mergeZ (s.n 41) m' v')) := fun m' v' hm s h => lgl_put (k := 3) h (by decide) (Out.merge (h.out 3 (by decide)) hm) (fun e => by omega) (fun e => by omega)
  unfold viewW
  by_cases c1 : m = 256
  · rw [if_pos c1]
    refine lgl_put (k := 0) h (by decide) (Out.merge (h.out 0 (by decide)) (fun i hi c => (s_786722 i hi c).1)) (fun _ => ?_) (fun e => by omega)
    exact (sub_mode _ _ _ (fun i hi c => (s_786722 i hi c).2)).trans h.mode
  rw [if_neg c1]
  by_cases c2 : m = 836
  · rw [if_pos c2]
    have h1 := lgl_mip h (Out.merge (v := v) h.mip (m' := 546) (fun _ _ c => c))
    exact p61 4 v s_4 _ h1
  rw [if_neg c2]
  by_cases c3 : m = 1604
  · rw [if_pos c3]; exact p61 4 v s_4 s h
  rw [if_neg c3]
  by_cases c4 : m = 324
  · rw [if_pos c4]; exact lgl_mip h (Out.merge h.mip (sub_and 2 _ 546 s_2))
  rw [if_neg c4]
  by_cases c5 : m = 580
  · rw [if_pos c5]; exact p61 _ _ (sub_and 4 _ _ s_4) s h
  rw [if_neg c5]
  by_cases c6 : m = 260
  · rw [if_pos c6]; exact p41 _ _ (sub_and 546 _ _ s_546) s h
  rw [if_neg c6]
  by_cases c7 : m = 1540
  · rw [if_pos c7]; exact p41 _ _ s_5188 s h
  rw [if_neg c7]
  by_cases c8 : m = 516
  · rw [if_pos c8]; exact p41 _ _ (sub_and 1092 _ _ s_1092) s h
  rw [if_neg c8]; exact h

/-! writing what set and clear begin with -/
theorem bit_half (x : Int) (hx : In64 x) (i : Nat) (hi : i < 64) (h0 : (V x).getLsbD 0 = false) : (V (IntKind.u64.wrap (x / 2 * 2))).getLsbD i = (V x).getLsbD i := by
  have e : x / 2 = U (V x >>> 1) := by have := shr_eq hx 1; simpa using this
  have e2 : IntKind.u64.wrap (x / 2 * 2) = U (V (x / 2) <<< 1) := by have := wrap_shl (x / 2) 1; simpa using this
  have e3 : V (x / 2) = V x >>> 1 := (congrArg V e).trans (V_U _)
  rw [e2, V_U, e3]
  simp only [BitVec.getLsbD_shiftLeft, BitVec.getLsbD_ushiftRight, decide_eq_true hi, Bool.true_and]
  by_cases c : i < 1
  · obtain rfl : i = 0 := by omega
    rw [h0]; rfl
  · rw [decide_eq_false c, show 1 + (i - 1) = i by omega]; rfl
theorem put2_self (s : HS) {a b : Nat} (hab : ¬ b = a) {x y : Int} (hx : x = s.n a) (hy : y = s.n b) : (s.put a x).put b y = s := by
  subst hx hy
  rw [HS.put_self, HS.put_self]
theorem n_zero : ∀ i : Nat, (V 0).getLsbD i = false := fun i => by rw [V_zero]; simp
/-- Bits of what is pending, of a legal hart. -/
theorem pend_low {s : HS} (h : Lgl s) (l : LS) (i : Nat) (hi : i < 64) (hm : (V 546).getLsbD i = true) (hl : i = 9 → l.se = false) : (V (pendZ s l)).getLsbD i = (V (s.n 42)).getLsbD i := by
  have h61 := h.out 24 (by decide) i hi ((by decide +kernel : ∀ i, i < 64 → (V 546).getLsbD i = true → (V (mkF 24)).getLsbD i = false) i hi hm)
  rw [bit_pend _ _ i hi]
  have e61 : (V (s.n 61)).getLsbD i = false := h61.trans (n_zero i)
  obtain ⟨a, b, c, d, e⟩ := (by decide +kernel : ∀ i, i < 64 → (V 546).getLsbD i = true → ¬ 3 = i ∧ ¬ 7 = i ∧ ¬ 11 = i ∧ ¬ 10 = i ∧ ¬ 12 = i) i hi hm
  rw [e61]
  simp only [a, b, c, d, e, decide_false, Bool.and_false, Bool.or_false]
  by_cases q : 9 = i
  · rw [hl q.symm, Bool.false_and, Bool.or_false]
  · simp only [q, decide_false, Bool.and_false, Bool.or_false]
theorem pend_2 {s : HS} (h : Lgl s) (l : LS) : (V (pendZ s l)).getLsbD 2 = (V (s.n 61)).getLsbD 2 := by
  rw [bit_pend _ _ 2 (by decide), show (V (s.n 42)).getLsbD 2 = false from (h.mip 2 (by decide) (by decide +kernel)).trans (n_zero 2)]
  simp
theorem only_2 : ∀ i, i < 64 → (V 2).getLsbD i = true → i = 1 := by decide +kernel
theorem only_4 : ∀ i, i < 64 → (V 4).getLsbD i = true → i = 2 := by decide +kernel
theorem and_bits (x y : Int) (i : Nat) : (V (bits .and .u64 x y)).getLsbD i = ((V x).getLsbD i && (V y).getLsbD i) := by rw [bits_and, V_U, BitVec.getLsbD_and]
theorem same_eq {s : HS} (ok : HOk s) (h : Lgl s) (l : LS) (no : Int) : writeZ s no (baseZ s l no) = s := by
  unfold baseZ
  obtain ⟨l', hl'⟩ : ∃ l', l' = (if no = 836 then { l with se := false } else l) := ⟨_, rfl⟩
  have hse : no = 836 → l'.se = false := fun e => by rw [hl', if_pos e]
  rw [← hl']
  clear hl'
  unfold writeZ readZ
  have hm836 : meantZ s.v no = 836 → no = 836 := fun e => by
    unfold meantZ at e
    by_cases c : (s.v && nineB no) = true
    · rw [if_pos c] at e
      have : no = 580 := by omega
      subst this
      rw [show nineB 580 = false by rfl, Bool.and_false] at c; cases c
    · rw [if_neg c] at e; exact e
  generalize meantZ s.v no = m at *
  unfold writeM readM
  by_cases hx : ixF m < 38
  · rw [if_pos hx, if_pos hx]
    have hput : putZ (ixF m) (s.n (clF (ixF m))) (s.n (clF (ixF m))) = s.n (clF (ixF m)) := by
      have hmg : ∀ q, mergeZ (s.n (clF (ixF m))) q (s.n (clF (ixF m))) = s.n (clF (ixF m)) := fun q => merge_same (ok.n _) (fun _ _ _ => rfl)
      unfold putZ
      by_cases c : ixF m = 0
      · rw [if_pos c, hmg]
      rw [if_neg c]
      by_cases d : ixF m = 20 ∨ ixF m = 37 ∨ ixF m = 29
      · rw [if_pos d, hmg]; cases noTabB (s.n (clF (ixF m))) <;> rfl
      · rw [if_neg d, hmg]
    rw [hput, HS.put_self]
  rw [if_neg hx, if_neg hx]
  unfold viewW viewR
  by_cases c1 : m = 256
  · rw [if_pos c1, if_pos c1]
    rw [merge_same (ok.n _) (fun i hi c => ?_), HS.put_self]
    rw [bits_or, V_U, bits_and, V_U]
    simp only [BitVec.getLsbD_or, BitVec.getLsbD_and, c, Bool.and_true]
    rw [(by decide +kernel : ∀ i, i < 64 → (V 786722).getLsbD i = true → (V 8589934592).getLsbD i = false) i hi c, Bool.or_false]
  rw [if_neg c1, if_neg c1]
  by_cases c2 : m = 836
  · rw [if_pos c2, if_pos c2]
    refine put2_self s (by decide) (merge_same (ok.n _) (fun i hi c => pend_low h l' i hi c (fun _ => hse (hm836 c2)))) ?_
    refine merge_same (ok.n _) (fun i hi c => ?_)
    obtain rfl := only_4 i hi c
    exact pend_2 h l'
  rw [if_neg c2, if_neg c2]
  by_cases c3 : m = 1604
  · rw [if_pos c3]
    by_cases c4 : m = 324
    · omega
    rw [if_neg c4, if_pos c3]
    rw [merge_same (ok.n _) (fun i hi c => ?_), HS.put_self]
    obtain rfl := only_4 i hi c
    rw [and_bits, pend_2 h l', show (V 5188).getLsbD 2 = true by decide +kernel, Bool.and_true]
  rw [if_neg c3]
  by_cases c4 : m = 324
  · rw [if_pos c4, if_pos c4]
    rw [merge_same (ok.n _) (fun i hi c => ?_), HS.put_self]
    rw [and_bits, Bool.and_eq_true] at c
    obtain rfl := only_2 i hi c.1
    rw [and_bits, and_bits, c.2, show (V 546).getLsbD 1 = true by decide +kernel, Bool.and_true, Bool.and_true]
    exact pend_low h l' 1 (by decide) (by decide +kernel) (fun e => by omega)
  rw [if_neg c4, if_neg c4, if_neg c3]
  by_cases c5 : m = 580
  · rw [if_pos c5, if_pos c5]
    rw [merge_same (ok.n _) (fun i hi c => ?_), HS.put_self]
    rw [bit_half _ (and_in _ _) i hi (by rw [and_bits, and_bits, show (V 1092).getLsbD 0 = false by decide +kernel, Bool.false_and, Bool.and_false])]
    rw [and_bits, Bool.and_eq_true] at c
    obtain rfl := only_4 i hi c.1
    rw [and_bits, and_bits, c.2, show (V 1092).getLsbD 2 = true by decide +kernel, Bool.and_true, Bool.and_true]
    exact pend_2 h l'
  rw [if_neg c5, if_neg c5]
  by_cases c6 : m = 260
  · rw [if_pos c6, if_pos c6]
    rw [merge_same (ok.n _) (fun i hi c => ?_), HS.put_self]
    rw [and_bits, c, Bool.and_true]
  rw [if_neg c6, if_neg c6]
  by_cases c7 : m = 1540
  · rw [if_pos c7, if_pos c7]
    rw [merge_same (ok.n _) (fun i hi c => ?_), HS.put_self]
    rw [and_bits, c, Bool.and_true]
  rw [if_neg c7, if_neg c7]
  by_cases c8 : m = 516
  · rw [if_pos c8, if_pos c8]
    rw [merge_same (ok.n _) (fun i hi c => ?_), HS.put_self]
    rw [bit_half _ (and_in _ _) i hi (by rw [and_bits, and_bits, show (V 1092).getLsbD 0 = false by decide +kernel, Bool.false_and, Bool.and_false])]
    rw [and_bits, c, Bool.and_true]
  rw [if_neg c8]
end Go.Proofs.Ytkfhpmleelmcfaa
