/- Layer 14 (trap): a legal hart stays legal, step by step. Prepared ahead. -/
import Derived.Test.YtkfhpmleelmcfaaTpA
import Derived.Test.YtkfhpmleelmcfaaCsQ
namespace Go.Proofs.Ytkfhpmleelmcfaa
open Go.RowKit
set_option linter.unusedVariables false
set_option maxRecDepth 100000

theorem Out.withB {x m s : Int} (h : Out x m s) {k : Nat} (hk : k < 64) (hm : bitZ m k = true) (b : Bool) : Out (withZ x k b) m s := fun i hi hq => by
  have := bit_with x hk hi b
  unfold bitZ at this hm
  rw [this]
  by_cases e : i = k
  · subst e; rw [hm] at hq; cases hq
  · rw [if_neg e]; exact h i hi hq
theorem out_all {x : Int} : Out x 18446744073709551615 0 := fun i hi hm => by
  rw [V_all, BitVec.getLsbD_allOnes, decide_eq_true hi] at hm; cases hm
theorem noMode_with {x : Int} (h : noModeB x = false) {k : Nat} (hk : k < 64) (h1 : ¬ k = 11) (h2 : ¬ k = 12) (b : Bool) : noModeB (withZ x k b) = false := by
  rw [noMode_bits] at h ⊢
  rw [bit_with x hk (by omega), bit_with x hk (by omega), if_neg (fun e => h2 e.symm), if_neg (fun e => h1 e.symm)]; exact h
theorem Lgl.csr {t : HS} (h : Lgl t) {j : Nat} (hj : j < 38) {x : Int} (hx : Out x (mkF j) (seF j)) (hm : j = 0 → noModeB x = false) (ht : clF j ≠ 57 ∧ clF j ≠ 66 ∧ clF j ≠ 74) : Lgl (t.put (clF j) x) := by
  obtain ⟨c1, c2, c3⟩ := clF_in j hj
  have o : ∀ i, ¬ i = clF j → (t.put (clF j) x).n i = t.n i := fun i hi => HS.put_other t x hi
  refine ⟨fun k hk => ?_, ?_, ?_, ?_, ?_, ?_, ?_, ?_, ?_, ?_, ?_⟩
  · by_cases e : k = j
    · subst e; rw [HS.put_same]; exact hx
    · rw [o _ (fun q => e (clF_inj hk hj q))]; exact h.out k hk
  · by_cases e : j = 0
    · subst e
      have : clF 0 = 38 := by decide +kernel
      rw [this, HS.put_same]; exact hm rfl
    · rw [o _ (fun q => e (clF_inj hj (by omega) (q.symm.trans (by decide +kernel : (38 : Nat) = clF 0))))]; exact h.mode
  · rw [o _ (fun q => ht.1 q.symm)]; exact h.t57
  · rw [o _ (fun q => ht.2.1 q.symm)]; exact h.t66
  · rw [o _ (fun q => ht.2.2 q.symm)]; exact h.t74
  · rw [o _ (fun q => c3 q.symm)]; exact h.mip
  · rw [o _ (by omega)]; exact h.pc
  · rw [o _ (by omega)]; exact h.x0
  · rw [o _ (by omega)]; exact h.priv
  · show (t.v && ((t.put (clF j) x).n 33 != 3)) = t.v; rw [o _ (by omega)]; exact h.vm
  · show (if t.held then bits .and .u64 ((t.put (clF j) x).n 37) 72057594037927928 else 0) = (t.put (clF j) x).n 37; rw [o _ (by omega)]; exact h.res
theorem cl_small : ∀ k, k < 38 → ¬ clF k = 0 ∧ ¬ clF k = 33 ∧ ¬ clF k = 37 := fun k hk => by have := clF_in k hk; omega
theorem Lgl.pcP {t : HS} (h : Lgl t) {x : Int} (hx : bits .andNot .u64 x 3 = x) : Lgl (t.put 0 x) := by
  have o : ∀ i, ¬ i = 0 → (t.put 0 x).n i = t.n i := fun i hi => HS.put_other t x hi
  refine ⟨fun k hk => ?_, ?_, ?_, ?_, ?_, ?_, ?_, ?_, ?_, ?_, ?_⟩
  · rw [o _ (cl_small k hk).1]; exact h.out k hk
  · rw [o _ (by omega)]; exact h.mode
  · rw [o _ (by omega)]; exact h.t57
  · rw [o _ (by omega)]; exact h.t66
  · rw [o _ (by omega)]; exact h.t74
  · rw [o _ (by omega)]; exact h.mip
  · rw [HS.put_same]; exact hx
  · rw [o _ (by omega)]; exact h.x0
  · rw [o _ (by omega)]; exact h.priv
  · show (t.v && ((t.put 0 x).n 33 != 3)) = t.v; rw [o _ (by omega)]; exact h.vm
  · show (if t.held then bits .and .u64 ((t.put 0 x).n 37) 72057594037927928 else 0) = (t.put 0 x).n 37; rw [o _ (by omega)]; exact h.res
/-- The mode, and whether it is a guest's; no line held. -/
theorem Lgl.modeP {t : HS} (h : Lgl t) {p : Int} {v w : Bool} (hp : p = 0 ∨ p = 1 ∨ p = 3) (hv : v = true → p ≠ 3) : Lgl { n := ((t.put 33 p).put 37 0).n, v := v, wait := w, held := false } := by
  have o : ∀ i, ¬ i = 33 → ¬ i = 37 → ((t.put 33 p).put 37 0).n i = t.n i := fun i h1 h2 => by rw [HS.put_other _ _ h2, HS.put_other _ _ h1]
  have e33 : ((t.put 33 p).put 37 0).n 33 = p := by rw [HS.put_other _ _ (by omega), HS.put_same]
  refine ⟨fun k hk => ?_, ?_, ?_, ?_, ?_, ?_, ?_, ?_, ?_, ?_, ?_⟩
  · show Out (((t.put 33 p).put 37 0).n (clF k)) _ _; rw [o _ (cl_small k hk).2.1 (cl_small k hk).2.2]; exact h.out k hk
  · show noModeB (((t.put 33 p).put 37 0).n 38) = false; rw [o _ (by omega) (by omega)]; exact h.mode
  · show noTabB (((t.put 33 p).put 37 0).n 57) = false; rw [o _ (by omega) (by omega)]; exact h.t57
  · show noTabB (((t.put 33 p).put 37 0).n 66) = false; rw [o _ (by omega) (by omega)]; exact h.t66
  · show noTabB (((t.put 33 p).put 37 0).n 74) = false; rw [o _ (by omega) (by omega)]; exact h.t74
  · show Out (((t.put 33 p).put 37 0).n 42) _ _; rw [o _ (by omega) (by omega)]; exact h.mip
  · show bits .andNot .u64 (((t.put 33 p).put 37 0).n 0) 3 = ((t.put 33 p).put 37 0).n 0; rw [o _ (by omega) (by omega)]; exact h.pc
  · show ((t.put 33 p).put 37 0).n 1 = 0; rw [o _ (by omega) (by omega)]; exact h.x0
  · show ((t.put 33 p).put 37 0).n 33 = 0 ∨ _; rw [e33]; exact hp
  · show (v && (((t.put 33 p).put 37 0).n 33 != 3)) = v
    rw [e33]
    cases hq : v with
    | false => rfl
    | true => simp [hv hq]
  · show (if false = true then _ else 0) = ((t.put 33 p).put 37 0).n 37
    rw [HS.put_same]; rfl
end Go.Proofs.Ytkfhpmleelmcfaa
