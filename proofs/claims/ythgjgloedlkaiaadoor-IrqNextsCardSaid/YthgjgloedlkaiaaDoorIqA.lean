/- Layer 13: which interrupt is taken, in plain words. Plain maths over a hart's state. -/
import Derived.Test.YthgjgloedlkaiaaDoorCsA
namespace Go.Proofs.YthgjgloedlkaiaaDoor
open Go.RowKit
set_option linter.unusedVariables false
set_option maxRecDepth 100000

/-- What asks. -/
def asksZ (t : HS) (l : LS) : Int := bits .and .u64 (pendZ t l) (t.n 41)
theorem bit_asks (t : HS) (l : LS) (n : Nat) : bitZ (asksZ t l) n = (bitZ (pendZ t l) n && bitZ (t.n 41) n) := by
  unfold asksZ bitZ; rw [bits_and, V_U, BitVec.getLsbD_and]
def lvlZ (t : HS) (n : Nat) : Nat := if !bitZ (t.n 40) n then 0 else if !bitZ (t.n 60) n then 1 else 2
def openZ (t : HS) (lv : Nat) : Bool :=
  if lv = 0 then (t.n 33 != 3 || bitZ (t.n 38) 3)
  else if t.n 33 == 3 then false
  else if lv = 1 then (t.v || t.n 33 == 0 || bitZ (t.n 38) 1)
  else (t.v && (t.n 33 == 0 || bitZ (t.n 68) 1))
def rankZ (n : Nat) : Nat :=
  if n = 11 then 0 else if n = 3 then 1 else if n = 7 then 2 else if n = 9 then 3 else if n = 1 then 4 else if n = 5 then 5 else if n = 12 then 6 else if n = 10 then 7 else if n = 2 then 8 else if n = 6 then 9 else 100 + n
theorem rank_inj : ∀ a, a < 64 → ∀ b, b < 64 → rankZ a = rankZ b → a = b := by decide +kernel
/-- The best of the first k that p has. -/
def bestGo (p : Nat → Bool) : Nat → Option Nat
  | 0 => none
  | k + 1 => match bestGo p k with
    | none => if p k then some k else none
    | some b => if p k && decide (rankZ k < rankZ b) then some k else some b
theorem bestGo_none {p : Nat → Bool} : ∀ {k : Nat}, bestGo p k = none ↔ ∀ n, n < k → p n = false
  | 0 => by simp [bestGo]
  | k + 1 => by
    unfold bestGo
    cases h : bestGo p k with
    | none =>
      have ih := (bestGo_none (p := p) (k := k)).1 h
      cases hp : p k
      · simp only [Bool.false_eq_true, if_false, true_iff]
        intro n hn
        by_cases e : n = k
        · rw [e]; exact hp
        · exact ih n (by omega)
      · simp only [if_true]
        constructor
        · intro q; cases q
        · intro q; rw [q k (by omega)] at hp; cases hp
    | some b =>
      constructor
      · intro q
        dsimp only at q
        split at q <;> cases q
      · intro q
        have : bestGo p k = none := (bestGo_none (p := p) (k := k)).2 fun n hn => q n (by omega)
        rw [this] at h; cases h
theorem bestGo_some {p : Nat → Bool} : ∀ {k b : Nat}, bestGo p k = some b → b < k ∧ p b = true ∧ ∀ n, n < k → p n = true → rankZ b ≤ rankZ n
  | 0, b, h => by cases h
  | k + 1, b, h => by
    unfold bestGo at h
    cases h1 : bestGo p k with
    | none =>
      rw [h1] at h
      have ih := (bestGo_none (p := p) (k := k)).1 h1
      cases hp : p k
      · rw [hp] at h; cases h
      · rw [hp] at h
        simp only [if_true, Option.some.injEq] at h
        subst h
        refine ⟨by omega, hp, fun n hn hq => ?_⟩
        by_cases e : n = k
        · rw [e]; exact Nat.le_refl _
        · rw [ih n (by omega)] at hq; cases hq
    | some c =>
      rw [h1] at h
      obtain ⟨a1, a2, a3⟩ := bestGo_some h1
      dsimp only at h
      by_cases q : (p k && decide (rankZ k < rankZ c)) = true
      · rw [if_pos q] at h
        simp only [Option.some.injEq] at h
        subst h
        rw [Bool.and_eq_true, decide_eq_true_eq] at q
        refine ⟨by omega, q.1, fun n hn hq => ?_⟩
        by_cases e : n = k
        · rw [e]; exact Nat.le_refl _
        · have := a3 n (by omega) hq; omega
      · rw [if_neg q] at h
        simp only [Option.some.injEq] at h
        subst h
        refine ⟨by omega, a2, fun n hn hq => ?_⟩
        by_cases e : n = k
        · subst e
          rw [hq, Bool.true_and, decide_eq_true_eq] at q; omega
        · exact a3 n (by omega) hq
/-- Whoever is the best is told. -/
theorem bestGo_is {p : Nat → Bool} {b : Nat} (hb : b < 64) (h : p b = true) (hm : ∀ n, n < 64 → p n = true → rankZ b ≤ rankZ n) : bestGo p 64 = some b := by
  cases c : bestGo p 64 with
  | none => rw [(bestGo_none.1 c) b hb] at h; cases h
  | some d =>
    obtain ⟨h1, h2, h3⟩ := bestGo_some c
    have e1 := hm d h1 h2
    have e2 := h3 b hb h
    rw [rank_inj d h1 b hb (by omega)]
/-- What asks of a level that is open. -/
def candZ (t : HS) (l : LS) (lv n : Nat) : Bool := bitZ (asksZ t l) n && (lvlZ t n == lv) && openZ t lv
/-- The interrupt that is taken. -/
def nextZ (t : HS) (l : LS) : Option Nat :=
  match bestGo (candZ t l 0) 64 with
  | some b => some b
  | none => match bestGo (candZ t l 1) 64 with
    | some b => some b
    | none => bestGo (candZ t l 2) 64
theorem lvl_lt (t : HS) (n : Nat) : lvlZ t n < 3 := by
  unfold lvlZ
  cases bitZ (t.n 40) n <;> cases bitZ (t.n 60) n <;> decide
/-- What is taken: it asks, is of an open level, is the first of its level, and nothing of a level ahead that is open asks. -/
theorem nextZ_some {t : HS} {l : LS} {n : Nat} (h : nextZ t l = some n) : n < 64 ∧ bitZ (asksZ t l) n = true ∧ openZ t (lvlZ t n) = true ∧ (∀ m, m < 64 → candZ t l (lvlZ t n) m = true → rankZ n ≤ rankZ m) ∧ ∀ lv, lv < lvlZ t n → ∀ m, m < 64 → candZ t l lv m = false := by
  have key : ∀ lv, bestGo (candZ t l lv) 64 = some n → n < 64 ∧ bitZ (asksZ t l) n = true ∧ lvlZ t n = lv ∧ openZ t lv = true ∧ ∀ m, m < 64 → candZ t l lv m = true → rankZ n ≤ rankZ m := fun lv q => by
    obtain ⟨a, b, c⟩ := bestGo_some q
    have b' := b
    unfold candZ at b'
    rw [Bool.and_eq_true, Bool.and_eq_true, beq_iff_eq] at b'
    exact ⟨a, b'.1.1, b'.1.2, b'.2, c⟩
  unfold nextZ at h
  cases h0 : bestGo (candZ t l 0) 64 with
  | some b =>
    rw [h0] at h
    simp only [Option.some.injEq] at h
    subst h
    obtain ⟨a1, a2, a3, a4, a5⟩ := key 0 h0
    rw [a3]
    exact ⟨a1, a2, a4, a5, fun lv hl => absurd hl (Nat.not_lt_zero lv)⟩
  | none =>
    rw [h0] at h
    have n0 := bestGo_none.1 h0
    cases h1 : bestGo (candZ t l 1) 64 with
    | some b =>
      rw [h1] at h
      simp only [Option.some.injEq] at h
      subst h
      obtain ⟨a1, a2, a3, a4, a5⟩ := key 1 h1
      rw [a3]
      refine ⟨a1, a2, a4, a5, fun lv hl m hm => ?_⟩
      obtain rfl : lv = 0 := by omega
      exact n0 m hm
    | none =>
      rw [h1] at h
      have n1 := bestGo_none.1 h1
      obtain ⟨a1, a2, a3, a4, a5⟩ := key 2 h
      rw [a3]
      refine ⟨a1, a2, a4, a5, fun lv hl m hm => ?_⟩
      rcases (show lv = 0 ∨ lv = 1 by omega) with rfl | rfl
      · exact n0 m hm
      · exact n1 m hm
theorem nextZ_none {t : HS} {l : LS} : nextZ t l = none ↔ ∀ lv, lv < 3 → ∀ m, m < 64 → candZ t l lv m = false := by
  unfold nextZ
  constructor
  · intro h
    cases h0 : bestGo (candZ t l 0) 64 with
    | some b => rw [h0] at h; cases h
    | none =>
      rw [h0] at h
      cases h1 : bestGo (candZ t l 1) 64 with
      | some b => rw [h1] at h; cases h
      | none =>
        rw [h1] at h
        intro lv hl m hm
        rcases (show lv = 0 ∨ lv = 1 ∨ lv = 2 by omega) with rfl | rfl | rfl
        · exact bestGo_none.1 h0 m hm
        · exact bestGo_none.1 h1 m hm
        · exact bestGo_none.1 h m hm
  · intro h
    rw [bestGo_none.2 (h 0 (by omega)), bestGo_none.2 (h 1 (by omega))]
    exact bestGo_none.2 (h 2 (by omega))
end Go.Proofs.YthgjgloedlkaiaaDoor
