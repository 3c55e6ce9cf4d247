/- Layer 13: in which order the interrupts come, and which one stays. Plain maths. -/
import Derived.Test.YthgjgloedlkaiaaDoorIqB
import Derived.Test.YthgjgloedlkaiaaDoorIqD
namespace Go.Proofs.YthgjgloedlkaiaaDoor
open Go.RowKit
set_option linter.unusedVariables false
set_option maxRecDepth 100000

def ordF : List (Fin 64) := [11, 3, 7, 9, 1, 5, 12, 10, 2, 6]
/-- The k-th of the order. -/
def ordN (k : Nat) : Fin 64 := ordF.getD k 0
theorem ord_get : ∀ k, k < 10 → ordF[k]? = some (ordN k) := by decide
/-- What is left when the first k of the order have come. -/
def restZ (x : Int) : Nat → Int
  | 0 => x
  | k + 1 => bits .andNot .u64 (restZ x k) (2 ^ (ordN k).val)
theorem rest_bit (x : Int) : ∀ k, k ≤ 10 → ∀ n, n < 64 → bitZ (restZ x k) n = (bitZ x n && !((ordF.take k).any fun f => f.val == n))
  | 0, _, n, hn => by simp [restZ]
  | k + 1, hk, n, hn => by
    have ih := rest_bit x k (by omega) n hn
    have e : bitZ (restZ x (k + 1)) n = (bitZ (restZ x k) n && !decide ((ordN k).val = n)) := by
      show bitZ (bits .andNot .u64 (restZ x k) (2 ^ (ordN k).val)) n = _
      unfold bitZ
      rw [bits_andNot, V_U, V_pow]
      simp only [BitVec.getLsbD_and, BitVec.getLsbD_not, BitVec.getLsbD_twoPow, decide_eq_true hn, decide_eq_true (ordN k).isLt, Bool.true_and]
    rw [e, ih, List.take_add_one, List.any_append, ord_get k (by omega)]
    simp only [Option.toList_some, List.any_cons, List.any_nil, Bool.or_false, Bool.not_or, Bool.and_assoc]
    congr 2
theorem rest_in {x : Int} (hx : In64 x) : ∀ k, In64 (restZ x k)
  | 0 => hx
  | k + 1 => andNot_in _ _
theorem ord_new : ∀ k, k < 10 → ((ordF.take k).any fun f => f.val == (ordN k).val) = false := by decide
theorem rest_own (x : Int) {k : Nat} (hk : k < 10) : bitZ (restZ x k) (ordN k).val = bitZ x (ordN k).val := by
  rw [rest_bit x k (by omega) _ (ordN k).isLt, ord_new k hk]; simp
def preA (x : Int) (k : Nat) : List (Fin 64) := (ordF.take k).filter fun f => bitZ x f.val
def preB (x : Int) (k : Nat) : List (Fin 64) := ((List.finRange 64).take k).filter fun f => bitZ (restZ x 10) f.val
/-- What comes, in its order. -/
def iterL (x : Int) : List (Fin 64) := preA x 10 ++ preB x 64
theorem preA_yes {x : Int} {k : Nat} (hk : k < 10) (h : bitZ (restZ x k) (ordN k).val = true) : preA x (k + 1) = preA x k ++ [ordN k] := by
  rw [rest_own x hk] at h
  unfold preA
  rw [List.take_add_one, List.filter_append, ord_get k hk]
  simp [h]
theorem preA_no {x : Int} {k : Nat} (hk : k < 10) (h : bitZ (restZ x k) (ordN k).val = false) : preA x (k + 1) = preA x k := by
  rw [rest_own x hk] at h
  unfold preA
  rw [List.take_add_one, List.filter_append, ord_get k hk]
  simp [h]
theorem fin_get (k : Nat) (hk : k < 64) : (List.finRange 64)[k]? = some (⟨k, hk⟩ : Fin 64) := by
  rw [List.getElem?_eq_getElem (by simp; exact hk)]; simp
theorem preB_yes {x : Int} {k : Nat} (hk : k < 64) (h : bitZ (restZ x 10) k = true) : preB x (k + 1) = preB x k ++ [⟨k, hk⟩] := by
  unfold preB
  rw [List.take_add_one, List.filter_append, fin_get k hk]
  simp [h]
theorem preB_no {x : Int} {k : Nat} (hk : k < 64) (h : bitZ (restZ x 10) k = false) : preB x (k + 1) = preB x k := by
  unfold preB
  rw [List.take_add_one, List.filter_append, fin_get k hk]
  simp [h]
theorem bit_high {y : Int} (hy : In64 y) {k : Nat} (h : y / 2 ^ k = 0) {n : Nat} (hn : k ≤ n) : bitZ y n = false := by
  have h2 : y < 2 ^ k := by
    have h3 : (0 : Int) < 2 ^ k := by exact_mod_cast Nat.two_pow_pos k
    have := Int.lt_ediv_add_one_mul_self y h3
    rw [h] at this; omega
  obtain ⟨m, rfl⟩ : ∃ m : Nat, y = (m : Int) := ⟨y.toNat, by have := hy.1; omega⟩
  have hm : m < 2 ^ k := by exact_mod_cast h2
  unfold bitZ V
  rw [BitVec.ofInt_natCast, BitVec.getLsbD_ofNat, Nat.testBit_lt_two_pow (Nat.lt_of_lt_of_le hm (Nat.pow_le_pow_right (by omega) hn)), Bool.and_false]
theorem preB_end {x : Int} (hx : In64 x) {k : Nat} (h : restZ x 10 / 2 ^ k = 0) : ∀ j, preB x (k + j) = preB x k
  | 0 => rfl
  | j + 1 => by
    by_cases hj : k + j < 64
    · rw [show k + (j + 1) = k + j + 1 by omega, preB_no hj (bit_high (rest_in hx 10) h (by omega))]
      exact preB_end hx h j
    · have e1 : ∀ m, 64 ≤ m → preB x m = preB x 64 := fun m hm => by
        unfold preB
        rw [List.take_of_length_le (by simp; exact hm), List.take_of_length_le (by simp)]
      rw [e1 (k + (j + 1)) (by omega), ← preB_end hx h j, e1 (k + j) (by omega)]
theorem iter_end {x : Int} (hx : In64 x) {k : Nat} (hk : k ≤ 64) (h : restZ x 10 / 2 ^ k = 0) : preA x 10 ++ preB x k = iterL x := by
  unfold iterL
  have := preB_end hx h (64 - k)
  rw [show k + (64 - k) = 64 by omega] at this
  rw [this]
theorem mem_iter (x : Int) (f : Fin 64) : f ∈ iterL x ↔ bitZ x f.val = true := by
  unfold iterL preA preB
  rw [List.mem_append, List.take_of_length_le (by decide), List.take_of_length_le (by simp), List.mem_filter, List.mem_filter, rest_bit x 10 (by omega) _ f.isLt, List.take_of_length_le (by decide)]
  have hm : (ordF.any fun g => g.val == f.val) = decide (f ∈ ordF) := by
    revert f; decide
  rw [hm]
  by_cases c : f ∈ ordF
  · simp [c]
  · simp [c, List.mem_finRange]
theorem rank_in : ∀ f : Fin 64, f ∈ ordF → rankZ f.val < 100 := by decide
theorem rank_out : ∀ f : Fin 64, ¬ f ∈ ordF → rankZ f.val = 100 + f.val := by decide
theorem ord_sorted : ordF.Pairwise (fun a b => rankZ a.val < rankZ b.val) := by decide
theorem fin_sorted : (List.finRange 64).Pairwise (fun a b => a.val < b.val) := by decide +kernel
theorem iter_sorted (x : Int) : (iterL x).Pairwise (fun a b => rankZ a.val < rankZ b.val) := by
  have hB : ∀ f, f ∈ preB x 64 → ¬ f ∈ ordF := fun f hf => by
    unfold preB at hf
    rw [List.mem_filter, rest_bit x 10 (by omega) _ f.isLt, List.take_of_length_le (by decide : ordF.length ≤ 10)] at hf
    intro c
    have hm : (ordF.any fun g => g.val == f.val) = decide (f ∈ ordF) := by
      clear hf c; revert f; decide
    rw [hm] at hf
    simp [c] at hf
  have hA : ∀ f, f ∈ preA x 10 → f ∈ ordF := fun f hf => by
    unfold preA at hf
    rw [List.take_of_length_le (by decide)] at hf
    exact (List.mem_filter.1 hf).1
  unfold iterL
  rw [List.pairwise_append]
  refine ⟨?_, ?_, fun a ha b hb => ?_⟩
  · unfold preA
    rw [List.take_of_length_le (by decide)]
    exact ord_sorted.filter _
  · have h1 : (preB x 64).Pairwise (fun a b => a.val < b.val) := by
      unfold preB
      rw [List.take_of_length_le (by simp)]
      exact fin_sorted.filter _
    refine h1.imp_of_mem (fun {a b} ha hb hlt => ?_)
    rw [rank_out a (hB a ha), rank_out b (hB b hb)]; omega
  · have := rank_in a (hA a ha)
    rw [rank_out b (hB b hb)]; omega
/-- The level of the one that stands; three where none does. -/
def lvO (t : HS) : Option (Fin 64) → Nat
  | none => 3
  | some c => lvlZ t c.val
def stepO (t : HS) (cur : Option (Fin 64)) (n : Fin 64) : Option (Fin 64) := if (decide (lvlZ t n.val < lvO t cur) && openZ t (lvlZ t n.val)) = true then some n else cur
def Best (t : HS) (L : List (Fin 64)) : Option (Fin 64) → Prop
  | none => ∀ m, m ∈ L → openZ t (lvlZ t m.val) = false
  | some c => c ∈ L ∧ openZ t (lvlZ t c.val) = true ∧ ∀ m, m ∈ L → openZ t (lvlZ t m.val) = true → lvlZ t c.val < lvlZ t m.val ∨ (lvlZ t c.val = lvlZ t m.val ∧ rankZ c.val ≤ rankZ m.val)
theorem best_step {t : HS} {L : List (Fin 64)} {cur : Option (Fin 64)} {n : Fin 64} (h : Best t L cur) (hr : ∀ m, m ∈ L → rankZ m.val < rankZ n.val) : Best t (L ++ [n]) (stepO t cur n) := by
  unfold stepO
  have h3 := lvl_lt t n.val
  cases cur with
  | none =>
    have e : decide (lvlZ t n.val < lvO t none) = true := decide_eq_true h3
    rw [e, Bool.true_and]
    by_cases c : openZ t (lvlZ t n.val) = true
    · rw [if_pos c]
      refine ⟨by simp, c, fun m hm hmo => ?_⟩
      rcases List.mem_append.1 hm with hm | hm
      · rw [h m hm] at hmo; cases hmo
      · simp only [List.mem_singleton] at hm; subst hm; exact .inr ⟨rfl, Nat.le_refl _⟩
    · rw [if_neg c]
      intro m hm
      rcases List.mem_append.1 hm with hm | hm
      · exact h m hm
      · simp only [List.mem_singleton] at hm; subst hm; simpa using c
  | some d =>
    obtain ⟨h1, h2, h4⟩ := h
    by_cases c : (decide (lvlZ t n.val < lvO t (some d)) && openZ t (lvlZ t n.val)) = true
    · rw [if_pos c]
      rw [Bool.and_eq_true, decide_eq_true_eq] at c
      have c1 : lvlZ t n.val < lvlZ t d.val := c.1
      refine ⟨by simp, c.2, fun m hm hmo => ?_⟩
      rcases List.mem_append.1 hm with hm | hm
      · rcases h4 m hm hmo with q | q
        · exact .inl (by omega)
        · exact .inl (by omega)
      · simp only [List.mem_singleton] at hm; subst hm; exact .inr ⟨rfl, Nat.le_refl _⟩
    · rw [if_neg c]
      refine ⟨by simp [h1], h2, fun m hm hmo => ?_⟩
      rcases List.mem_append.1 hm with hm | hm
      · exact h4 m hm hmo
      · simp only [List.mem_singleton] at hm; subst hm
        rw [Bool.and_eq_true, decide_eq_true_eq] at c
        have c1 : ¬ lvlZ t m.val < lvlZ t d.val := fun q => c ⟨q, hmo⟩
        have := hr d h1
        by_cases e : lvlZ t d.val = lvlZ t m.val
        · exact .inr ⟨e, by omega⟩
        · exact .inl (by omega)
theorem best_fold (t : HS) : ∀ (L2 L1 : List (Fin 64)) (cur : Option (Fin 64)), Best t L1 cur → (L1 ++ L2).Pairwise (fun a b => rankZ a.val < rankZ b.val) → Best t (L1 ++ L2) (L2.foldl (stepO t) cur)
  | [], L1, cur, h, hp => by simpa using h
  | n :: L2, L1, cur, h, hp => by
    have hr : ∀ m, m ∈ L1 → rankZ m.val < rankZ n.val := fun m hm => (List.pairwise_append.1 hp).2.2 m hm n (by simp)
    have := best_fold t L2 (L1 ++ [n]) (stepO t cur n) (best_step h hr) (by simpa using hp)
    simpa using this
def accO (t : HS) (L : List (Fin 64)) : Option (Fin 64) := L.foldl (stepO t) none
theorem accO_snoc (t : HS) (L : List (Fin 64)) (n : Fin 64) : accO t (L ++ [n]) = stepO t (accO t L) n := by unfold accO; simp
def numO : Option (Fin 64) → Option Nat
  | none => none
  | some f => some f.val
/-- The one that stays is the one that is taken. -/
theorem acc_next (t : HS) (l : LS) : numO (accO t (iterL (asksZ t l))) = nextZ t l := by
  have hb : Best t (iterL (asksZ t l)) (accO t (iterL (asksZ t l))) := by
    have := best_fold t (iterL (asksZ t l)) [] none (fun m hm => by cases hm) (by simpa using iter_sorted _)
    rw [List.nil_append] at this; exact this
  cases hc : accO t (iterL (asksZ t l)) with
  | none =>
    rw [hc] at hb
    symm
    show nextZ t l = none
    rw [nextZ_none]
    intro lv hlv m hm
    cases q : candZ t l lv m with
    | false => rfl
    | true =>
      unfold candZ at q
      rw [Bool.and_eq_true, Bool.and_eq_true, beq_iff_eq] at q
      have := hb ⟨m, hm⟩ ((mem_iter _ _).2 q.1.1)
      simp only at this
      rw [q.1.2, q.2] at this; cases this
  | some c =>
    rw [hc] at hb
    obtain ⟨h1, h2, h3⟩ := hb
    symm
    show nextZ t l = some c.val
    refine nextZ_is c.isLt ((mem_iter _ _).1 h1) h2 (fun m hm q => ?_) (fun lv hlv m hm => ?_)
    · unfold candZ at q
      rw [Bool.and_eq_true, Bool.and_eq_true, beq_iff_eq] at q
      have q1 : lvlZ t m = lvlZ t c.val := q.1.2
      rcases h3 ⟨m, hm⟩ ((mem_iter _ _).2 q.1.1) (by simp only; rw [q1]; exact h2) with z | z
      · simp only at z; omega
      · exact z.2
    · cases q : candZ t l lv m with
      | false => rfl
      | true =>
        unfold candZ at q
        rw [Bool.and_eq_true, Bool.and_eq_true, beq_iff_eq] at q
        rcases h3 ⟨m, hm⟩ ((mem_iter _ _).2 q.1.1) (by simp only; rw [q.1.2]; exact q.2) with z | z
        · simp only at z; rw [q.1.2] at z; omega
        · have := z.1; simp only at this; rw [q.1.2] at this; omega
theorem pre_len (x : Int) (k j : Nat) : (preA x k ++ preB x j).length < 100 := by
  have h1 : (preA x k).length ≤ 10 := Nat.le_trans (List.length_filter_le _ _) (by rw [List.length_take]; exact Nat.min_le_right _ _)
  have h2 : (preB x j).length ≤ 64 := Nat.le_trans (List.length_filter_le _ _) (by rw [List.length_take]; simp; omega)
  rw [List.length_append]; omega
theorem or_cause : ∀ n, n < 64 → bits .or .u64 9223372036854775808 ((n : Nat) : Int) = 9223372036854775808 + n := by decide +kernel
end Go.Proofs.YthgjgloedlkaiaaDoor
