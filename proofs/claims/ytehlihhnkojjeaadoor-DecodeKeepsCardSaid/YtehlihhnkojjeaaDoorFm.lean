/- The program's layouts and the document's places come to the same. Plain Lean; nothing of the program. -/
import Derived.Test.YtehlihhnkojjeaaDoorFb
namespace Go.Proofs.YtehlihhnkojjeaaDoor
open Go.RowKit
set_option linter.unusedVariables false

/-! ### numbers -/
theorem plZ_nat (x : Int) (p : Int) (h : 0 ≤ p) : plZ x p = x / 2 ^ p.toNat % 2 := by unfold plZ; rw [if_pos h]; rfl
theorem numD_app (x : Int) (a b : List Int) : numD x (a ++ b) = numD x a * 2 ^ b.length + numD x b := by
  have h : ∀ (b : List Int) (s : Int), b.foldl (fun n p => 2 * n + plZ x p) s = s * 2 ^ b.length + numD x b := by
    intro b
    induction b with
    | nil => intro s; show s = s * 2 ^ 0 + 0; rw [Int.pow_zero]; omega
    | cons p b ih =>
      intro s
      show b.foldl (fun n p => 2 * n + plZ x p) (2 * s + plZ x p) = s * 2 ^ (b.length + 1) + numD x (p :: b)
      have e : numD x (p :: b) = b.foldl (fun n p => 2 * n + plZ x p) (2 * 0 + plZ x p) := rfl
      rw [e, ih, ih, Int.pow_succ, Int.add_mul, Int.add_mul, ← Int.mul_assoc, Int.mul_comm 2 s, Int.mul_assoc s 2, Int.mul_comm 2 (2 ^ b.length), Int.mul_assoc]
      omega
  unfold numD
  rw [List.foldl_append]
  exact h b _
theorem numD_down (x hi : Int) (m : Nat) (h : (m : Int) ≤ hi + 1) : numD x (down hi m) = x / 2 ^ (hi - m + 1).toNat % 2 ^ m := by
  induction m with
  | zero => show (0 : Int) = _; rw [Int.pow_zero, Int.emod_one]
  | succ m ih =>
    rw [down_succ, numD_snoc, ih (by omega), plZ_nat _ _ (by omega)]
    have e := fld_step x (hi - m).toNat m
    rw [show (hi - (m : Int)).toNat + 1 = (hi - (m : Int) + 1).toNat by omega] at e
    unfold bitZ at e
    rw [show (((hi - (m : Int)).toNat : Nat) : Int).toNat = (hi - (m : Int)).toNat by omega] at e
    rw [e, show (hi - ((m + 1 : Nat) : Int) + 1).toNat = (hi - (m : Int)).toNat by omega]
theorem numD_nts (x : Int) (m : Nat) : numD x (List.replicate m (-1)) = 0 := by
  induction m with
  | zero => rfl
  | succ m ih => rw [List.replicate_succ', numD_snoc, ih]; rfl
/-- The bits of the pieces ahead of k, the highest first. -/
def Lay.pl (L : Lay) : Nat → List Int
  | 0 => []
  | k + 1 => L.pl k ++ down (L.h k) (L.len k)
def Lay.places (L : Lay) : List Int := L.pl L.ps.length ++ List.replicate L.nt (-1)
theorem Lay.num_pl {L : Lay} (hL : L.Ok) (x : Int) : ∀ k, k ≤ L.ps.length → L.num x k = L.num x 0 * 2 ^ (L.pl k).length + numD x (L.pl k) := by
  intro k
  induction k with
  | zero => intro _; show _ = L.num x 0 * 2 ^ 0 + 0; rw [Int.pow_zero]; omega
  | succ k ih =>
    intro hk
    have g := hL.in31 k (by omega)
    have e : fldZ x (L.h k) (L.l k) = numD x (down (L.h k) (L.len k)) := by
      unfold Lay.len
      rw [numD_down _ _ _ (by omega), fldZ_eq g]; congr 3; omega
    show L.num x k * 2 ^ L.len k + fldZ x (L.h k) (L.l k) = L.num x 0 * 2 ^ (L.pl k ++ down (L.h k) (L.len k)).length + numD x (L.pl k ++ down (L.h k) (L.len k))
    rw [ih (by omega), numD_app, e, List.length_append, down_len, Int.add_mul, Int.mul_assoc, ← Int.pow_add, Int.add_assoc]
theorem Lay.number_pl {L : Lay} (hL : L.Ok) (x : Int) : L.number x = L.num x 0 * 2 ^ L.places.length + numD x L.places := by
  unfold Lay.number Lay.places
  rw [L.num_pl hL x _ (Nat.le_refl _), numD_app, numD_nts, List.length_append, List.length_replicate, Int.add_mul, Int.mul_assoc, ← Int.pow_add]
  omega
theorem Lay.number_numR {L : Lay} (hL : L.Ok) (hh : L.sg = true → L.h 0 = 31) (x : Int) : L.number x = numR x L.sg L.places := by
  rw [L.number_pl hL]
  have e : L.num x 0 = if L.neg x then -1 else 0 := rfl
  unfold numR
  rw [e]
  unfold Lay.neg
  cases hs : L.sg
  · simp
  · rw [hh hs]
    have e2 : fldZ x 31 31 = bitZ x 31 := by rw [fldZ_eq (by decide)]; rfl
    rw [e2]
    cases (bitZ x 31 == 1)
    · simp
    · simp; omega

/-! ### words -/
/-- How far the piece's lowest bit stands in the number. -/
def Lay.sft (L : Lay) : Nat → Nat
  | 0 => L.nt
  | m + 1 => L.sft m + L.len (L.ps.length - 1 - m)
theorem Lay.rest_sft (L : Lay) (n : Int) (m : Nat) : L.rest n m = n / 2 ^ L.sft m := by
  induction m with
  | zero => rfl
  | succ m ih =>
    show L.rest n m / 2 ^ L.len (L.ps.length - 1 - m) = n / 2 ^ (L.sft m + L.len (L.ps.length - 1 - m))
    rw [ih, Int.ediv_ediv_of_nonneg (Int.le_of_lt (two_pow_pos _)), ← Int.pow_add]
/-- Which bits of the number bit q of the word is. -/
def Lay.src (L : Lay) (q : Nat) : List Nat := ((List.range L.ps.length).filter fun i => L.has q (L.ps.length - 1 - i)).map fun i => L.sft i + (q - (L.l (L.ps.length - 1 - i)).toNat)
theorem any_src {α : Type} (xs : List α) (f : α → Bool) (g : α → Nat) (B : Nat → Bool) : (xs.any fun i => f i && B (g i)) = ((xs.filter f).map g).any B := by
  induction xs with
  | nil => rfl
  | cons a xs ih =>
    rw [List.any_cons, ih, List.filter_cons]
    cases f a <;> simp
theorem Lay.word_src {L : Lay} (hL : L.Ok) (n : Int) {q : Nat} (hq : q < 32) : tb (L.word n) q = (L.src q).any (tb n) := by
  unfold Lay.word Lay.src
  rw [L.put_tb hL n hq _ (Nat.le_refl _), ← any_src]
  congr 1; funext i
  rw [L.rest_sft, tb_div]
/-- The same of the document's places. -/
def srcD (l : List Int) (j q : Nat) : List Nat := ((List.range j).filter fun i => decide (l.getD i 0 = q)).map fun i => l.length - 1 - i
theorem tb_pow {p : Int} (h0 : 0 ≤ p) (q : Nat) : tb (2 ^ p.toNat) q = decide (p = q) := by
  have h := tb_mul 1 p.toNat q
  rw [Int.one_mul] at h
  rw [h]
  by_cases a : p.toNat ≤ q
  · rw [decide_eq_true a, Bool.true_and]
    by_cases b : q - p.toNat = 0
    · rw [b, decide_eq_true (show p = (q : Int) by omega)]; rfl
    · rw [decide_eq_false (show ¬ p = (q : Int) by omega)]
      unfold tb
      have e : (1 : Int) / 2 ^ (q - p.toNat) = 0 := by
        have h2 : (2 : Int) ^ 1 ≤ 2 ^ (q - p.toNat) := by exact_mod_cast Nat.pow_le_pow_right (by omega) (show 1 ≤ q - p.toNat by omega)
        exact Int.ediv_eq_zero_of_lt (by omega) (by omega)
      rw [e]; rfl
  · rw [decide_eq_false a, decide_eq_false (show ¬ p = (q : Int) by omega)]; rfl
theorem bitN_tb (n : Int) (j : Nat) : (bitN n j = 1) ↔ tb n j = true := by unfold bitN tb; rw [beq_iff_eq]
theorem putD_src (n : Int) (l : List Int) {q : Nat} (hq : q < 32) : ∀ j, tb (putD n l j) q = (srcD l j q).any (tb n) := by
  intro j
  unfold srcD
  rw [← any_src]
  induction j with
  | zero => show tb 0 q = false; unfold tb; rw [Int.zero_ediv]; rfl
  | succ j ih =>
    rw [List.range_succ, List.any_append, ← ih]
    simp only [List.any_cons, List.any_nil, Bool.or_false]
    by_cases h : 0 ≤ l.getD j 0 ∧ bitN n (l.length - 1 - j) = 1
    · rw [putD, if_pos h, tb_or hq, tb_wrap hq, tb_pow h.1, (bitN_tb _ _).1 h.2, Bool.and_true]
    · rw [putD, if_neg h]
      by_cases c : l.getD j 0 = q
      · have : tb n (l.length - 1 - j) = false := by
          rw [← Bool.not_eq_true, ← bitN_tb]; intro hb; exact h ⟨by omega, hb⟩
        rw [this]; simp
      · rw [decide_eq_false c]; simp
theorem putD_in (n : Int) (l : List Int) (j : Nat) : In32 (putD n l j) := by
  induction j with
  | zero => unfold putD In32; omega
  | succ j ih => unfold putD; split; exact or_in _ _; exact ih
theorem Lay.word_putD {L : Lay} (hL : L.Ok) (n : Int) (l : List Int) (h : ∀ q, q < 32 → L.src q = srcD l l.length q) : L.word n = putD n l l.length :=
  ext32 (L.word_in _) (putD_in _ _ _) fun q hq => by rw [L.word_src hL n hq, putD_src n l hq, h q hq]

/-! ### what fits -/
theorem fold_bits (n : Int) (len : Nat) : ∀ (x : Int) (l : List Int) (k : Nat), l.length = len → k ≤ len → (∀ i, i < len → plZ x (l.getD i 0) = bitN n (len - 1 - i)) → numD x (l.take k) = n / 2 ^ (len - k) % 2 ^ k := by
  intro x l k hl hk h
  induction k with
  | zero => show (0 : Int) = _; rw [Int.pow_zero, Int.emod_one]
  | succ k ih =>
    rw [numD_take x l k (by omega), ih (by omega), h k (by omega)]
    have e := fld_step n (len - 1 - k) k
    unfold bitZ at e
    unfold bitN
    rw [show ((len - 1 - k : Nat) : Int).toNat = len - 1 - k by omega, show len - 1 - k + 1 = len - k by omega] at e
    rw [e, show len - (k + 1) = len - 1 - k by omega]
structure FormOk (L : Lay) (l : List Int) : Prop where
  ok : L.Ok
  pl : L.places = l
  src : ∀ q, q < 32 → L.src q = srcD l l.length q
  own : ∀ i, i < l.length → 0 ≤ l.getD i 0 → l.getD i 0 < 32 ∧ L.src (l.getD i 0).toNat = [l.length - 1 - i]
  nts : ∀ i, i < l.length → (l.getD i 0 < 0 ↔ l.length - 1 - i < L.nt)
  top : L.sg = true → L.h 0 = 31 ∧ l.getD 0 0 = 31
  len : 1 ≤ l.length ∧ l.length ≤ 32 ∧ L.nt ≤ l.length
/-- The lowest bits of a number of which all are 0. -/
theorem mod_zero (n : Int) : ∀ m : Nat, (∀ j, j < m → bitN n j = 0) → n % 2 ^ m = 0 := by
  intro m
  induction m generalizing n with
  | zero => intro _; rw [Int.pow_zero, Int.emod_one]
  | succ m ih =>
    intro h
    have h0 := h 0 (by omega)
    unfold bitN at h0
    rw [Int.pow_zero, Int.ediv_one] at h0
    have h1 := ih (n / 2) fun j hj => by
      have := h (j + 1) (by omega)
      unfold bitN at this ⊢
      rw [Int.ediv_ediv_of_nonneg (by omega), show (2 : Int) * 2 ^ j = 2 ^ (j + 1) by rw [Int.pow_succ, Int.mul_comm]]
      exact this
    have e := half_step n m
    rw [← e, h0, h1]; rfl
theorem zero_mod (n : Int) (m j : Nat) (hj : j < m) (h : n % 2 ^ m = 0) : bitN n j = 0 := by
  have e := tb_mod n m j
  rw [h, decide_eq_true hj, Bool.true_and] at e
  have z : tb 0 j = false := by unfold tb; rw [Int.zero_ediv]; rfl
  rw [z] at e
  rcases bitN_01 n j with h | h
  · exact h
  · rw [(bitN_tb _ _).1 h] at e; cases e

end Go.Proofs.YtehlihhnkojjeaaDoor
