/- Layer 12: writing, the document's (written by gen_csj.py by walkf.py). -/
import Derived.Test.YtkfhpmleelmcfaaCsH
import Derived.Test.YtkfhpmleelmcfaaCsI
namespace Go.Proofs.Ytkfhpmleelmcfaa
open Go.RowKit
set_option linter.unusedVariables false
set_option maxRecDepth 100000

/-- The first k bits put. -/
def pzB (o m v : BitVec 64) (k : Nat) : BitVec 64 := ofF fun i => if i < k then (if m.getLsbD i then v.getLsbD i else o.getLsbD i) else o.getLsbD i

def pz (o m v : Int) (k : Nat) : Int := U (pzB (V o) (V m) (V v) k)

theorem pz_zero {o m v : Int} (h : In64 o) : pz o m v 0 = o := by
  unfold pz pzB
  simp only [Nat.not_lt_zero, if_false]
  rw [ofF_bits, U_V h]

theorem pz_all (o m v : Int) {k : Nat} (hk : 64 ≤ k) : pz o m v k = mergeZ o m v := by
  unfold pz mergeZ
  rw [bits_or, bits_andNot, bits_and, V_U, V_U]
  congr 1
  apply ext64
  intro i hi
  unfold pzB
  rw [bit_ofF, decide_eq_true hi, Bool.true_and, if_pos (by omega)]
  simp only [BitVec.getLsbD_or, BitVec.getLsbD_and, BitVec.getLsbD_not, decide_eq_true hi, Bool.true_and]
  cases (V m).getLsbD i <;> simp

theorem pz_keep {o m v : Int} {k : Nat} (hk : k < 64) (hm : bitZ m k = false) : pz o m v (k + 1) = pz o m v k := by
  unfold pz pzB
  congr 1
  refine ofF_congr fun i hi => ?_
  by_cases e : i = k
  · subst e; unfold bitZ at hm; simp [hm]
  · by_cases c : i < k
    · rw [if_pos (by omega), if_pos c]
    · rw [if_neg (by omega), if_neg c]

theorem V_pz (o m v : Int) (k : Nat) : V (pz o m v k) = pzB (V o) (V m) (V v) k := by unfold pz; rw [V_U]

theorem pz_clear {o m v : Int} {k : Nat} (hk : k < 64) (hm : bitZ m k = true) (hv : bitZ v k = false) : pz o m v (k + 1) = bits .andNot .u64 (pz o m v k) (2 ^ k) := by
  rw [bits_andNot, V_pow, V_pz]
  unfold pz
  congr 1
  apply ext64
  intro i hi
  unfold pzB bitZ at *
  simp only [BitVec.getLsbD_and, BitVec.getLsbD_not, BitVec.getLsbD_twoPow, bit_ofF, decide_eq_true hi, Bool.true_and]
  by_cases e : i = k
  · subst e; rw [if_pos (by omega), hm, hv]; simp [hi]
  · by_cases c : i < k
    · rw [if_pos (by omega), if_pos c]; simp [show ¬ k = i from fun q => e q.symm, hi]
    · rw [if_neg (by omega), if_neg c]; simp [show ¬ k = i from fun q => e q.symm, hi]

theorem pz_set {o m v : Int} {k : Nat} (hk : k < 64) (hm : bitZ m k = true) (hv : bitZ v k = true) : pz o m v (k + 1) = bits .or .u64 (bits .andNot .u64 (pz o m v k) (2 ^ k)) (2 ^ k) := by
  rw [bits_or, bits_andNot, V_U, V_pow, V_pz]
  unfold pz
  congr 1
  apply ext64
  intro i hi
  unfold pzB bitZ at *
  simp only [BitVec.getLsbD_or, BitVec.getLsbD_and, BitVec.getLsbD_not, BitVec.getLsbD_twoPow, bit_ofF, decide_eq_true hi, Bool.true_and]
  by_cases e : i = k
  · subst e; rw [if_pos (by omega), hm, hv]; simp [hk]
  · by_cases c : i < k
    · rw [if_pos (by omega), if_pos c]; simp [show ¬ k = i from fun q => e q.symm, hi]
    · rw [if_neg (by omega), if_neg c]; simp [show ¬ k = i from fun q => e q.symm, hi]

theorem wrap_upW {k : Nat} (h : k < 1000000) : IntKind.u64.wrap ((k : Int) + 1) = ((k + 1 : Nat) : Int) := by
  rw [IntKind.wrap_u64]; omega

theorem In64.lit {x : Int} (h : 0 ≤ x ∧ x < 18446744073709551616) : In64 x := h

theorem wrap_in (x : Int) : In64 (IntKind.u64.wrap x) := by rw [wrap_eq]; exact U_in _

theorem merge_all (o : Int) {v : Int} (hv : In64 v) : mergeZ o 18446744073709551615 v = v := by
  unfold mergeZ
  rw [bits_or, bits_andNot, bits_and, V_U, V_U, V_all]
  rw [show V o &&& ~~~BitVec.allOnes 64 = 0#64 by simp, BitVec.zero_or, BitVec.and_allOnes, U_V hv]

theorem noMode_bits (v : Int) : noModeB v = (bitZ v 12 && !bitZ v 11) := by
  unfold noModeB bitZ
  rw [bits_and]
  generalize V v = b
  rw [show V 6144 = BitVec.twoPow 64 12 ||| BitVec.twoPow 64 11 by decide +kernel]
  have h : b &&& (BitVec.twoPow 64 12 ||| BitVec.twoPow 64 11) = (if b.getLsbD 12 then BitVec.twoPow 64 12 else 0#64) ||| (if b.getLsbD 11 then BitVec.twoPow 64 11 else 0#64) := by
    rw [BitVec.and_or_distrib_left, BitVec.and_twoPow, BitVec.and_twoPow]
  rw [h]
  cases b.getLsbD 12 <;> cases b.getLsbD 11 <;> decide +kernel

theorem putZ_zero (o v : Int) : putZ 0 o v = mergeZ o (if noModeB v then bits .andNot .u64 (mkF 0) 6144 else mkF 0) v := by unfold putZ; rw [if_pos rfl]

theorem putZ_tab (k : Nat) (h : ¬ k = 0 ∧ (k = 20 ∨ k = 37 ∨ k = 29)) (o v : Int) (hq : noTabB v = false) : putZ k o v = mergeZ o (mkF k) v := by unfold putZ; rw [if_neg h.1, if_pos h.2, hq]; rfl

theorem putZ_no (k : Nat) (h : ¬ k = 0 ∧ (k = 20 ∨ k = 37 ∨ k = 29)) (o v : Int) (hq : noTabB v = true) : putZ k o v = o := by unfold putZ; rw [if_neg h.1, if_pos h.2, hq]; rfl

theorem putZ_oth (k : Nat) (h : ¬ k = 0 ∧ ¬ (k = 20 ∨ k = 37 ∨ k = 29)) (o v : Int) : putZ k o v = mergeZ o (mkF k) v := by unfold putZ; rw [if_neg h.1, if_neg h.2]

theorem writeM_fld (t : HS) (v : Int) (k : Nat) (h : k < 38) : writeM t (noF k) v = t.put (clF k) (putZ k (t.n (clF k)) v) := by
  unfold writeM; rw [ixF_no k h, if_pos h]

def docW : List Int := [256, 260, 261, 262, 320, 321, 322, 323, 324, 384, 512, 516, 517, 576, 577, 578, 579, 580, 640, 768, 770, 771, 772, 773, 774, 832, 833, 834, 835, 836, 842, 843, 1536, 1538, 1539, 1540, 1541, 1542, 1543, 1603, 1604, 1605, 1610, 1664, 2816, 2818]

theorem writeM_none (t : HS) (v : Int) {m : Int} (h : NeAll m docW) : writeM t m v = t := by
  have hm := h.mem
  have n : ∀ k, k < 38 → ¬ noF k = m := fun k hk e => hm _ ((by decide +kernel : ∀ k, k < 38 → noF k ∈ docW) k hk) e.symm
  have hx : ¬ ixF m < 38 := fun c => by
    rcases ixF_cases m with ⟨_, q⟩ | ⟨q, _⟩
    · exact n _ c q
    · omega
  unfold writeM viewW
  rw [if_neg hx, if_neg (hm 256 (by decide)), if_neg (hm 836 (by decide)), if_neg (hm 1604 (by decide)), if_neg (hm 324 (by decide)), if_neg (hm 580 (by decide)), if_neg (hm 260 (by decide)), if_neg (hm 1540 (by decide)), if_neg (hm 516 (by decide))]

end Go.Proofs.Ytkfhpmleelmcfaa
