/- Layer 12: the document's Fix (written by gen_csk.py by walkf.py). -/
import Derived.Test.YtkfhpmleelmcfaaCsJ
namespace Go.Proofs.Ytkfhpmleelmcfaa
open Go.RowKit
set_option linter.unusedVariables false
set_option maxRecDepth 100000

section
variable {Q : Exit → Act → World → Prop} {w : World} {ops : Array Oper} {rest : List Oper} {o : Oper} {a : Act} {l : List (Nat × Value)} {n d : Nat}
theorem W_stUx (hA : FrA l n a) (hg : o.guard = none) (hd : o.dst = none) {x y : Operand} (ho : o.op = .store 22 x y) {b k : Nat} {v : Int} (hx : evL l x = some (.pointer (some ⟨b, k, none⟩))) (hy : evL l y = some (.int .u64 v)) {t : HS} (hb : HartB w b t) (hk : k < 77) (hu : k < 33 ∨ 36 < k)
    (h : ∀ w' z, z = v → Tch b w w' → HartB w' b (t.put k z) → wpList Try.prog ops Q rest a w') : wpList Try.prog ops Q (o :: rest) a w :=
  W_stU hA hg hd ho hx hy hb hk hu (fun w' => h w' v rfl)
theorem W_stPx (hA : FrA l n a) (hg : o.guard = none) (hd : o.dst = none) {x y : Operand} (ho : o.op = .store 5 x y) {b : Nat} {v : Int} (hx : evL l x = some (.pointer (some ⟨b, 33, none⟩))) (hy : evL l y = some (.int .u8 v)) {t : HS} (hb : HartB w b t)
    (h : ∀ w' z, z = v → Tch b w w' → HartB w' b (t.put 33 z) → wpList Try.prog ops Q rest a w') : wpList Try.prog ops Q (o :: rest) a w :=
  W_stP hA hg hd ho hx hy hb (fun w' => h w' v rfl)
theorem W_stVx (hA : FrA l n a) (hg : o.guard = none) (hd : o.dst = none) {x y : Operand} (ho : o.op = .store 4 x y) {b : Nat} {v : Bool} (hx : evL l x = some (.pointer (some ⟨b, 34, none⟩))) (hy : evL l y = some (.bool v)) {t : HS} (hb : HartB w b t)
    (h : ∀ w' z, z = v → Tch b w w' → HartB w' b (t.putV z) → wpList Try.prog ops Q rest a w') : wpList Try.prog ops Q (o :: rest) a w :=
  W_stV hA hg hd ho hx hy hb (fun w' => h w' v rfl)
theorem R_ixa (hA : FrA l n a) {T : TypeId} {x y : Operand} (ho : o.op = .indexAddr T x y) {u v r : Value} (hx : evL l x = some u) (hy : evL l y = some v) (hT : ∀ w, (Instr.indexAt T u v).run Try.prog w = .ok r w) (w : World) : (execOp a.eval o).run Try.prog w = .ok (.value r) w := by
  unfold execOp; simp only [ho, hA.ev hx, hA.ev hy, Sem.run_bind, hT, Result.andThen_ok, Sem.run_pure]
theorem ixa_hart (b : Nat) (w : World) : (Instr.indexAt 23 (.pointer (some ⟨b, 1, none⟩)) (.int .i64 0)).run Try.prog w = .ok (.pointer (some ⟨b, 1, none⟩)) w := by kernel_rfl
theorem R_neqB (hA : FrA l n a) {x y : Operand} (ho : o.op = .binOp .neq 5 x y 5) {u v : Int} (hx : evL l x = some (.int .u8 u)) (hy : evL l y = some (.int .u8 v)) (w : World) : (execOp a.eval o).run Try.prog w = .ok (.value (.bool (u != v))) w := by
  unfold execOp; simp only [ho, hA.ev hx, hA.ev hy]; simp [go_sem]
theorem R_eqlB (hA : FrA l n a) {x y : Operand} (ho : o.op = .binOp .eql 5 x y 5) {u v : Int} (hx : evL l x = some (.int .u8 u)) (hy : evL l y = some (.int .u8 v)) (w : World) : (execOp a.eval o).run Try.prog w = .ok (.value (.bool (u == v))) w := by
  unfold execOp; simp only [ho, hA.ev hx, hA.ev hy]; simp [go_sem]
end
theorem fixZ_eq {s t : HS} (hv : s.v = (t.v && (t.n 33 != 3))) (hw : s.wait = t.wait) (hh : s.held = t.held) (h : ∀ i, s.n i = fixN t i) : s = fixZ t := by
  cases s with
  | mk n v wt hd =>
    unfold fixZ
    simp only at hv hw hh h
    subst hv hw hh
    rw [show n = fixN t from funext h]
theorem icF_at {i : Nat} (h : icF i < 38) : clF (icF i) = i := by
  have hl : clL.length = 38 := rfl
  have := List.findIdx_getElem (xs := clL) (p := (· == i)) (w := h)
  unfold clF
  rw [show clL.getD (icF i) 0 = clL[icF i]'(by rw [hl]; exact h) by simp [List.getD, show icF i < clL.length by rw [hl]; exact h]]
  exact eq_of_beq this
/-- The cells that fixing may turn. -/
def tchL : List Nat := [0, 1, 33, 37, 38, 39, 40, 41, 42, 43, 44, 46, 51, 52, 54, 57, 58, 59, 60, 61, 62, 63, 66, 68, 69, 71, 74]
theorem mask_id {x : Int} (hx : In64 x) : bits .or .u64 (bits .and .u64 x 18446744073709551615) 0 = x := by
  rw [or_zero (and_in _ _), bits_and, V_all, BitVec.and_allOnes, U_V hx]
theorem fixN_oth (t : HS) (ok : HOk t) {i : Nat} (h : ∀ c ∈ tchL, ¬ i = c) : fixN t i = t.n i := by
  unfold fixN
  rw [if_neg (h 0 (by decide)), if_neg (h 1 (by decide)), if_neg (h 33 (by decide)), if_neg (h 37 (by decide)), if_neg (h 42 (by decide)), if_neg (h 38 (by decide)), if_neg (h 57 (by decide)), if_neg (h 66 (by decide)), if_neg (h 74 (by decide))]
  by_cases c : icF i < 38
  · rw [if_pos c]
    have e := icF_at c
    rcases (by decide +kernel : ∀ k, k < 38 → clF k ∈ tchL ∨ (mkF k = 18446744073709551615 ∧ seF k = 0)) _ c with q | ⟨q1, q2⟩
    · rw [e] at q; exact absurd rfl (h i q)
    · unfold maskZ; rw [q1, q2, mask_id (ok.n i)]
  · rw [if_neg c]
theorem fixN_msk (t : HS) {i : Nat} (h : i ≠ 0 ∧ i ≠ 1 ∧ i ≠ 33 ∧ i ≠ 37 ∧ i ≠ 42 ∧ i ≠ 38 ∧ i ≠ 57 ∧ i ≠ 66 ∧ i ≠ 74 ∧ icF i < 38) : fixN t i = maskZ (icF i) (t.n i) := by
  obtain ⟨h0, h1, h2, h3, h4, h5, h6, h7, h8, h9⟩ := h
  unfold fixN
  rw [if_neg h0, if_neg h1, if_neg h2, if_neg h3, if_neg h4, if_neg h5, if_neg h6, if_neg h7, if_neg h8, if_pos h9]
theorem andNot_mask (x : Int) (m : Int) (c : Int) (h : ~~~V c = V m) : bits .andNot .u64 x c = bits .or .u64 (bits .and .u64 x m) 0 := by
  rw [or_zero (and_in _ _), bits_andNot, bits_and, h]
theorem mode_clr {x : Int} (h : noModeB x = true) : bits .andNot .u64 x 4096 = bits .andNot .u64 x 6144 := by
  rw [noMode_bits] at h
  simp only [Bool.and_eq_true, Bool.not_eq_true'] at h
  unfold bitZ at h
  rw [bits_andNot, bits_andNot]
  congr 1
  rw [show V 4096 = BitVec.twoPow 64 12 by decide +kernel, show V 6144 = BitVec.twoPow 64 12 ||| BitVec.twoPow 64 11 by decide +kernel]
  generalize V x = b at *
  apply ext64
  intro i hi
  simp only [BitVec.getLsbD_and, BitVec.getLsbD_not, BitVec.getLsbD_or, BitVec.getLsbD_twoPow, decide_eq_true hi, Bool.true_and]
  by_cases e : 11 = i
  · subst e; rw [h.2]; rfl
  · simp [e]
theorem noTab_sh (y : BitVec 64) : noTabB (U y) = (U (y >>> 60) != 0 && U (y >>> 60) != 8) := by
  have := shr_eq (U_in y) 60
  rw [V_U] at this
  rw [← this]; rfl
theorem tab_and (x : Int) (m : Int) (h : V m >>> 60 = 15#64) : noTabB (bits .and .u64 x m) = noTabB (U (V x)) := by
  have e : V (bits .and .u64 x m) >>> 60 = V x >>> 60 := by
    rw [bits_and, V_U]
    apply ext64
    intro i hi
    have hm := congrArg (fun b : BitVec 64 => b.getLsbD i) h
    simp only [BitVec.getLsbD_ushiftRight] at hm
    simp only [BitVec.getLsbD_ushiftRight, BitVec.getLsbD_and, hm]
    by_cases q : 60 + i < 64
    · have : i = 0 ∨ i = 1 ∨ i = 2 ∨ i = 3 := by omega
      rcases this with rfl | rfl | rfl | rfl <;> simp
    · rw [bit_of_ge (V x) (by omega)]; rfl
  have k1 := noTab_sh (V (bits .and .u64 x m))
  rw [U_V (and_in _ _)] at k1
  rw [k1, noTab_sh (V x), e]
/-- All cells but three. -/
theorem fixD {t s : HS} (ok : HOk t) (h0 : s.n 0 = bits .andNot .u64 (t.n 0) 3) (h1 : s.n 1 = 0) (h39 : s.n 39 = bits .and .u64 (t.n 39) 15775743) (h40 : s.n 40 = bits .or .u64 (bits .and .u64 (t.n 40) 546) 5188) (h41 : s.n 41 = bits .and .u64 (t.n 41) 7918) (h42 : s.n 42 = bits .and .u64 (t.n 42) 546) (h43 : s.n 43 = bits .andNot .u64 (t.n 43) 2) (h44 : s.n 44 = bits .and .u64 (t.n 44) 7) (h46 : s.n 46 = bits .andNot .u64 (t.n 46) 3) (h51 : s.n 51 = bits .andNot .u64 (t.n 51) 2) (h52 : s.n 52 = bits .and .u64 (t.n 52) 7) (h54 : s.n 54 = bits .andNot .u64 (t.n 54) 3) (h57 : s.n 57 = (if noTabB (t.n 57) = true then 0 else bits .and .u64 (t.n 57) 18446744073709551615)) (h58 : s.n 58 = bits .or .u64 (bits .and .u64 (t.n 58) 7345088) 8589934592) (h59 : s.n 59 = bits .and .u64 (t.n 59) 45567) (h60 : s.n 60 = bits .and .u64 (t.n 60) 1092) (h61 : s.n 61 = bits .and .u64 (t.n 61) 1092) (h62 : s.n 62 = bits .and .u64 (t.n 62) 7) (h63 : s.n 63 = bits .and .u64 (t.n 63) 2) (h66 : s.n 66 = (if noTabB (t.n 66) = true then 0 else bits .and .u64 (t.n 66) 17582052945254416380)) (h68 : s.n 68 = bits .or .u64 (bits .and .u64 (t.n 68) 786722) 8589934592) (h69 : s.n 69 = bits .andNot .u64 (t.n 69) 2) (h71 : s.n 71 = bits .andNot .u64 (t.n 71) 3) (h74 : s.n 74 = (if noTabB (t.n 74) = true then 0 else bits .and .u64 (t.n 74) 18446744073709551615)) (ho : ∀ i, (∀ c ∈ tchL, ¬ i = c) → s.n i = t.n i) (i : Nat) (hi : ¬ i = 33 ∧ ¬ i = 37 ∧ ¬ i = 38) : s.n i = fixN t i := by
  by_cases e0 : i = 0
  · subst e0
    rw [h0]; rfl
  by_cases e1 : i = 1
  · subst e1
    rw [h1]; rfl
  by_cases e39 : i = 39
  · subst e39
    rw [h39, fixN_msk t (by decide +kernel)]
    exact (or_zero (and_in _ _)).symm
  by_cases e40 : i = 40
  · subst e40
    rw [h40]; rfl
  by_cases e41 : i = 41
  · subst e41
    rw [h41, fixN_msk t (by decide +kernel)]
    exact (or_zero (and_in _ _)).symm
  by_cases e42 : i = 42
  · subst e42
    rw [h42]; rfl
  by_cases e43 : i = 43
  · subst e43
    rw [h43, fixN_msk t (by decide +kernel)]
    exact andNot_mask _ 18446744073709551613 2 (by decide +kernel)
  by_cases e44 : i = 44
  · subst e44
    rw [h44, fixN_msk t (by decide +kernel)]
    exact (or_zero (and_in _ _)).symm
  by_cases e46 : i = 46
  · subst e46
    rw [h46, fixN_msk t (by decide +kernel)]
    exact andNot_mask _ 18446744073709551612 3 (by decide +kernel)
  by_cases e51 : i = 51
  · subst e51
    rw [h51, fixN_msk t (by decide +kernel)]
    exact andNot_mask _ 18446744073709551613 2 (by decide +kernel)
  by_cases e52 : i = 52
  · subst e52
    rw [h52, fixN_msk t (by decide +kernel)]
    exact (or_zero (and_in _ _)).symm
  by_cases e54 : i = 54
  · subst e54
    rw [h54, fixN_msk t (by decide +kernel)]
    exact andNot_mask _ 18446744073709551612 3 (by decide +kernel)
  by_cases e57 : i = 57
  · subst e57
    rw [h57]
    show (if noTabB (t.n 57) = true then 0 else bits .and .u64 (t.n 57) 18446744073709551615) = (if noTabB (bits .or .u64 (bits .and .u64 (t.n 57) 18446744073709551615) 0) = true then 0 else bits .or .u64 (bits .and .u64 (t.n 57) 18446744073709551615) 0)
    rw [or_zero (and_in _ _), show bits .and .u64 (t.n 57) 18446744073709551615 = t.n 57 by rw [bits_and, V_all, BitVec.and_allOnes, U_V (ok.n _)]]
  by_cases e58 : i = 58
  · subst e58
    rw [h58]; rfl
  by_cases e59 : i = 59
  · subst e59
    rw [h59, fixN_msk t (by decide +kernel)]
    exact (or_zero (and_in _ _)).symm
  by_cases e60 : i = 60
  · subst e60
    rw [h60, fixN_msk t (by decide +kernel)]
    exact (or_zero (and_in _ _)).symm
  by_cases e61 : i = 61
  · subst e61
    rw [h61, fixN_msk t (by decide +kernel)]
    exact (or_zero (and_in _ _)).symm
  by_cases e62 : i = 62
  · subst e62
    rw [h62, fixN_msk t (by decide +kernel)]
    exact (or_zero (and_in _ _)).symm
  by_cases e63 : i = 63
  · subst e63
    rw [h63, fixN_msk t (by decide +kernel)]
    exact (or_zero (and_in _ _)).symm
  by_cases e66 : i = 66
  · subst e66
    rw [h66]
    show (if noTabB (t.n 66) = true then 0 else bits .and .u64 (t.n 66) 17582052945254416380) = (if noTabB (bits .or .u64 (bits .and .u64 (t.n 66) 17582052945254416380) 0) = true then 0 else bits .or .u64 (bits .and .u64 (t.n 66) 17582052945254416380) 0)
    rw [or_zero (and_in _ _), tab_and _ _ (by decide +kernel), U_V (ok.n _)]
  by_cases e68 : i = 68
  · subst e68
    rw [h68]; rfl
  by_cases e69 : i = 69
  · subst e69
    rw [h69, fixN_msk t (by decide +kernel)]
    exact andNot_mask _ 18446744073709551613 2 (by decide +kernel)
  by_cases e71 : i = 71
  · subst e71
    rw [h71, fixN_msk t (by decide +kernel)]
    exact andNot_mask _ 18446744073709551612 3 (by decide +kernel)
  by_cases e74 : i = 74
  · subst e74
    rw [h74]
    show (if noTabB (t.n 74) = true then 0 else bits .and .u64 (t.n 74) 18446744073709551615) = (if noTabB (bits .or .u64 (bits .and .u64 (t.n 74) 18446744073709551615) 0) = true then 0 else bits .or .u64 (bits .and .u64 (t.n 74) 18446744073709551615) 0)
    rw [or_zero (and_in _ _), show bits .and .u64 (t.n 74) 18446744073709551615 = t.n 74 by rw [bits_and, V_all, BitVec.and_allOnes, U_V (ok.n _)]]
  have hall : ∀ c ∈ tchL, ¬ i = c := fun c hc => by
    unfold tchL at hc
    simp only [List.mem_cons, List.not_mem_nil, or_false] at hc
    obtain ⟨q1, q2, q3⟩ := hi
    rcases hc with rfl | rfl | rfl | rfl | rfl | rfl | rfl | rfl | rfl | rfl | rfl | rfl | rfl | rfl | rfl | rfl | rfl | rfl | rfl | rfl | rfl | rfl | rfl | rfl | rfl | rfl | rfl <;> assumption
  rw [ho i hall]
  exact (fixN_oth t ok hall).symm
theorem res_and (x : Int) : bits .and .u64 (bits .andNot .u64 x 7) 72057594037927935 = bits .and .u64 x 72057594037927928 := by
  rw [bits_and, bits_andNot, bits_and, V_U, BitVec.and_assoc]
  rw [show ~~~V 7 &&& V 72057594037927935 = V 72057594037927928 by decide +kernel]
end Go.Proofs.Ytkfhpmleelmcfaa
