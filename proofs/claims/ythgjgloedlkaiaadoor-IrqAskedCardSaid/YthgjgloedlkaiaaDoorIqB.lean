/- Layer 13: what follows of the interrupt that is taken. Plain maths. -/
import Derived.Test.YthgjgloedlkaiaaDoorIqA
import Derived.Test.YthgjgloedlkaiaaDoorCsN
namespace Go.Proofs.YthgjgloedlkaiaaDoor
open Go.RowKit
set_option linter.unusedVariables false
set_option maxRecDepth 100000

theorem nextZ_is {t : HS} {l : LS} {n : Nat} (hn : n < 64) (ha : bitZ (asksZ t l) n = true) (ho : openZ t (lvlZ t n) = true) (hr : ∀ m, m < 64 → candZ t l (lvlZ t n) m = true → rankZ n ≤ rankZ m) (hp : ∀ lv, lv < lvlZ t n → ∀ m, m < 64 → candZ t l lv m = false) : nextZ t l = some n := by
  have hc : candZ t l (lvlZ t n) n = true := by unfold candZ; rw [ha, ho]; simp
  have hb := bestGo_is hn hc hr
  have h3 := lvl_lt t n
  unfold nextZ
  rcases (show lvlZ t n = 0 ∨ lvlZ t n = 1 ∨ lvlZ t n = 2 by omega) with e | e | e
  · rw [e] at hb; rw [hb]
  · rw [e] at hb hp
    rw [bestGo_none.2 (hp 0 (by omega)), hb]
  · rw [e] at hb hp
    rw [bestGo_none.2 (hp 0 (by omega)), bestGo_none.2 (hp 1 (by omega)), hb]
/-- A hart where interrupt k is not asked for. -/
def lessZ (t : HS) (k : Nat) : HS := t.put 41 (bits .andNot .u64 (t.n 41) (2 ^ k))
theorem pend_less (t : HS) (l : LS) (k : Nat) : pendZ (lessZ t k) l = pendZ t l := rfl
theorem asks_less (t : HS) (l : LS) (k : Nat) (hk : k < 64) (n : Nat) (hn : n < 64) : bitZ (asksZ (lessZ t k) l) n = (bitZ (asksZ t l) n && !decide (k = n)) := by
  rw [bit_asks, bit_asks, pend_less]
  have e : bitZ ((lessZ t k).n 41) n = (bitZ (t.n 41) n && !decide (k = n)) := by
    show bitZ (bits .andNot .u64 (t.n 41) (2 ^ k)) n = _
    unfold bitZ
    rw [bits_andNot, V_U, V_pow]
    simp only [BitVec.getLsbD_and, BitVec.getLsbD_not, BitVec.getLsbD_twoPow, decide_eq_true hn, decide_eq_true hk, Bool.true_and]
  rw [e, Bool.and_assoc]
theorem lvl_less (t : HS) (k n : Nat) : lvlZ (lessZ t k) n = lvlZ t n := rfl
theorem open_less (t : HS) (k lv : Nat) : openZ (lessZ t k) lv = openZ t lv := rfl
theorem cand_less (t : HS) (l : LS) (k : Nat) (hk : k < 64) (lv n : Nat) (hn : n < 64) : candZ (lessZ t k) l lv n = (candZ t l lv n && !decide (k = n)) := by
  unfold candZ
  rw [asks_less t l k hk n hn, lvl_less, open_less]
  cases bitZ (asksZ t l) n <;> cases (lvlZ t n == lv) <;> cases openZ t lv <;> cases decide (k = n) <;> rfl
/-- When another interrupt is no longer asked for, the one that is taken is still. -/
theorem next_less {t : HS} {l : LS} {n k : Nat} (hk : k < 64) (hkn : ¬ k = n) (h : nextZ t l = some n) : nextZ (lessZ t k) l = some n := by
  obtain ⟨h1, h2, h3, h4, h5⟩ := nextZ_some h
  refine nextZ_is h1 (by rw [asks_less t l k hk n h1, h2]; simp [hkn]) (by rw [lvl_less, open_less]; exact h3) (fun m hm hc => ?_) (fun lv hl m hm => ?_)
  · rw [lvl_less, cand_less t l k hk _ m hm, Bool.and_eq_true] at hc
    exact h4 m hm hc.1
  · rw [cand_less t l k hk lv m hm, h5 lv hl m hm]; rfl
/-- A machine whose interrupts are shut takes none, nor does it take one that is a supervisor's. -/
theorem next_machine {t : HS} {l : LS} {n : Nat} (h : nextZ t l = some n) (hp : t.n 33 = 3) : bitZ (t.n 38) 3 = true ∧ bitZ (t.n 40) n = false := by
  obtain ⟨h1, h2, h3, _, _⟩ := nextZ_some h
  cases c : bitZ (t.n 40) n
  · have e : lvlZ t n = 0 := by unfold lvlZ; rw [c]; rfl
    rw [e] at h3
    unfold openZ at h3
    rw [if_pos rfl, hp] at h3
    exact ⟨by simpa using h3, rfl⟩
  · exfalso
    have e : ¬ lvlZ t n = 0 := by unfold lvlZ; rw [c]; cases bitZ (t.n 60) n <;> decide
    unfold openZ at h3
    rw [if_neg e, hp] at h3
    simp at h3
/-- A guest's interrupt is taken only while a guest runs. -/
theorem next_guest {t : HS} {l : LS} {n : Nat} (h : nextZ t l = some n) (h1 : bitZ (t.n 40) n = true) (h2 : bitZ (t.n 60) n = true) : t.v = true ∧ ¬ t.n 33 = 3 := by
  obtain ⟨_, _, h3, _, _⟩ := nextZ_some h
  have e : lvlZ t n = 2 := by unfold lvlZ; rw [h1, h2]; rfl
  rw [e] at h3
  unfold openZ at h3
  rw [if_neg (by decide)] at h3
  cases q : (t.n 33 == 3)
  · rw [q] at h3
    simp only [Bool.false_eq_true, if_false] at h3
    rw [if_neg (by decide), Bool.and_eq_true] at h3
    exact ⟨h3.1, beq_eq_false_iff_ne.1 q⟩
  · rw [q] at h3; simp at h3
/-- One of the machine is taken ahead of all others. -/
theorem next_first {t : HS} {l : LS} {n m : Nat} (h : nextZ t l = some n) (hp : ¬ t.n 33 = 3) (hm : m < 64) (ha : bitZ (asksZ t l) m = true) (hd : bitZ (t.n 40) m = false) : bitZ (t.n 40) n = false := by
  obtain ⟨_, _, _, _, h5⟩ := nextZ_some h
  cases c : bitZ (t.n 40) n
  · rfl
  · exfalso
    have e : ¬ lvlZ t n = 0 := by unfold lvlZ; rw [c]; cases bitZ (t.n 60) n <;> decide
    have h0 := h5 0 (by omega) m hm
    have em : lvlZ t m = 0 := by unfold lvlZ; rw [hd]; rfl
    unfold candZ openZ at h0
    rw [ha, em, if_pos rfl, show (t.n 33 != 3) = true by simpa using hp] at h0
    simp at h0
/-- Where nothing asks nothing is taken. -/
theorem asks_zero {t : HS} {l : LS} (h : asksZ t l = 0) (n : Nat) : bitZ (asksZ t l) n = false := by
  rw [h]; unfold bitZ; rw [V_zero]; simp
end Go.Proofs.YthgjgloedlkaiaaDoor
