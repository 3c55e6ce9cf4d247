/- Layer 12: the bits of what is pending; the document's Base (written by gen_csn.py by walkf.py). -/
import Derived.Test.YtkfhpmleelmcfaaCsM
namespace Go.Proofs.Ytkfhpmleelmcfaa
open Go.RowKit
set_option linter.unusedVariables false
set_option maxRecDepth 100000

theorem V_whenP (b : Bool) (k : Nat) (hk : k < 64) : V (whenZ b (2 ^ k)) = if b then BitVec.twoPow 64 k else 0#64 := by
  cases b
  · rfl
  · show V (2 ^ k) = _; rw [V_pow]; rfl

theorem bit_when (b : Bool) (k : Nat) (hk : k < 64) (i : Nat) (hi : i < 64) : (V (whenZ b (2 ^ k))).getLsbD i = (b && decide (k = i)) := by
  rw [V_whenP b k hk]
  cases b
  · simp
  · simp [BitVec.getLsbD_twoPow, hk]

/-- Bit i of what is pending. -/
theorem bit_pend (t : HS) (l : LS) (i : Nat) (hi : i < 64) : (V (pendZ t l)).getLsbD i = ((V (t.n 42)).getLsbD i || (V (t.n 61)).getLsbD i || (l.ms && decide (3 = i)) || (l.mt && decide (7 = i)) || (l.me && decide (11 = i)) || (l.se && decide (9 = i)) ||
    (bitZ (t.n 58) 12 && bitZ l.g 1 && decide (10 = i)) || ((bits .and .u64 l.g (t.n 63) != 0) && decide (12 = i))) := by
  have h3 := bit_when l.ms 3 (by decide) i hi
  have h7 := bit_when l.mt 7 (by decide) i hi
  have h11 := bit_when l.me 11 (by decide) i hi
  have h9 := bit_when l.se 9 (by decide) i hi
  have h10 := bit_when (bitZ (t.n 58) 12 && bitZ l.g 1) 10 (by decide) i hi
  have h12 := bit_when (bits .and .u64 l.g (t.n 63) != 0) 12 (by decide) i hi
  rw [show (2 : Int) ^ 3 = 8 from rfl] at h3
  rw [show (2 : Int) ^ 7 = 128 from rfl] at h7
  rw [show (2 : Int) ^ 11 = 2048 from rfl] at h11
  rw [show (2 : Int) ^ 9 = 512 from rfl] at h9
  rw [show (2 : Int) ^ 10 = 1024 from rfl] at h10
  rw [show (2 : Int) ^ 12 = 4096 from rfl] at h12
  unfold pendZ
  simp only [bits_or, V_U, BitVec.getLsbD_or, h3, h7, h11, h9, h10, h12]

theorem pend_in (t : HS) (l : LS) : In64 (pendZ t l) := or_in _ _

theorem meant_836 (v : Bool) : meantZ v 836 = 836 := by cases v <;> rfl

theorem readZ_836 (t : HS) (l : LS) : readZ t l 836 = pendZ t l := by
  unfold readZ; rw [meant_836]; rfl

theorem U_ext {x y : Int} (hx : In64 x) (hy : In64 y) (h : ∀ i, i < 64 → (V x).getLsbD i = (V y).getLsbD i) : x = y := by
  rw [← U_V hx, ← U_V hy, ext64 h]

theorem base_bit (t : HS) (l : LS) : baseZ t l 836 = if (bitZ (t.n 42) 9 || bitZ (t.n 61) 9) = true then bits .or .u64 (bits .andNot .u64 (readZ t l 836) 512) 512 else bits .andNot .u64 (readZ t l 836) 512 := by
  unfold baseZ
  rw [if_pos rfl, readZ_836, readZ_836]
  have e512 : V 512 = BitVec.twoPow 64 9 := by decide +kernel
  by_cases q : (bitZ (t.n 42) 9 || bitZ (t.n 61) 9) = true
  · rw [if_pos q]
    refine U_ext (pend_in _ _) (or_in _ _) fun i hi => ?_
    rw [bit_pend _ _ i hi, bits_or, V_U, bits_andNot, V_U, e512]
    simp only [BitVec.getLsbD_or, BitVec.getLsbD_and, BitVec.getLsbD_not, BitVec.getLsbD_twoPow, decide_eq_true hi, Bool.true_and, bit_pend _ _ i hi]
    by_cases e : 9 = i
    · subst e
      have q' : ((V (t.n 42)).getLsbD 9 || (V (t.n 61)).getLsbD 9) = true := q
      generalize (V (t.n 42)).getLsbD 9 = A at *
      generalize (V (t.n 61)).getLsbD 9 = B at *
      simp [q']
    · simp [e]
  · rw [if_neg q]
    refine U_ext (pend_in _ _) (andNot_in _ _) fun i hi => ?_
    rw [bit_pend _ _ i hi, bits_andNot, V_U, e512]
    simp only [BitVec.getLsbD_and, BitVec.getLsbD_not, BitVec.getLsbD_twoPow, decide_eq_true hi, Bool.true_and, bit_pend _ _ i hi]
    by_cases e : 9 = i
    · subst e
      have q' : ((V (t.n 42)).getLsbD 9 || (V (t.n 61)).getLsbD 9) = false := by simpa [bitZ] using q
      generalize (V (t.n 42)).getLsbD 9 = A at *
      generalize (V (t.n 61)).getLsbD 9 = B at *
      simp [q']
    · simp [e]

end Go.Proofs.Ytkfhpmleelmcfaa
