/- Each form: the program's layout and the document's places come to the same. Plain Lean; nothing of the program. -/
import Derived.Test.YtehlihhnkojjeaaDoorFm
namespace Go.Proofs.YtehlihhnkojjeaaDoor
open Go.RowKit
set_option linter.unusedVariables false

theorem formOk (k : Nat) (hk : 1 ≤ k ∧ k ≤ 9) : FormOk (formL k) (formP k) := by
  match k, hk with
  | 1, _ => exact ⟨okForm1, by decide +kernel, by decide +kernel, by decide +kernel, by decide +kernel, by decide +kernel, by decide +kernel⟩
  | 2, _ => exact ⟨okForm2, by decide +kernel, by decide +kernel, by decide +kernel, by decide +kernel, by decide +kernel, by decide +kernel⟩
  | 3, _ => exact ⟨okForm3, by decide +kernel, by decide +kernel, by decide +kernel, by decide +kernel, by decide +kernel, by decide +kernel⟩
  | 4, _ => exact ⟨okForm4, by decide +kernel, by decide +kernel, by decide +kernel, by decide +kernel, by decide +kernel, by decide +kernel⟩
  | 5, _ => exact ⟨okForm5, by decide +kernel, by decide +kernel, by decide +kernel, by decide +kernel, by decide +kernel, by decide +kernel⟩
  | 6, _ => exact ⟨okForm6, by decide +kernel, by decide +kernel, by decide +kernel, by decide +kernel, by decide +kernel, by decide +kernel⟩
  | 7, _ => exact ⟨okForm7, by decide +kernel, by decide +kernel, by decide +kernel, by decide +kernel, by decide +kernel, by decide +kernel⟩
  | 8, _ => exact ⟨okForm8, by decide +kernel, by decide +kernel, by decide +kernel, by decide +kernel, by decide +kernel, by decide +kernel⟩
  | 9, _ => exact ⟨okForm9, by decide +kernel, by decide +kernel, by decide +kernel, by decide +kernel, by decide +kernel, by decide +kernel⟩
  | k + 10, hk => omega
theorem form_sg (k : Nat) (hk : 1 ≤ k ∧ k ≤ 9) : (formL k).sg = decide (k ≤ 5) := by
  match k, hk with
  | 1, _ => rfl
  | 2, _ => rfl
  | 3, _ => rfl
  | 4, _ => rfl
  | 5, _ => rfl
  | 6, _ => rfl
  | 7, _ => rfl
  | 8, _ => rfl
  | 9, _ => rfl
  | k + 10, hk => omega
theorem form_len (k : Nat) (hk : 1 ≤ k ∧ k ≤ 9) : (formP k).length = 5 ∨ (formP k).length = 6 ∨ (formP k).length = 12 ∨ (formP k).length = 13 ∨ (formP k).length = 21 ∨ (formP k).length = 32 := by
  match k, hk with
  | 1, _ => exact (by decide +kernel)
  | 2, _ => exact (by decide +kernel)
  | 3, _ => exact (by decide +kernel)
  | 4, _ => exact (by decide +kernel)
  | 5, _ => exact (by decide +kernel)
  | 6, _ => exact (by decide +kernel)
  | 7, _ => exact (by decide +kernel)
  | 8, _ => exact (by decide +kernel)
  | 9, _ => exact (by decide +kernel)
  | k + 10, hk => omega
theorem form_mask (k : Nat) (hk : 1 ≤ k ∧ k ≤ 9) : (formL k).word (-1) = bitsD (formP k) (formP k).length := by
  match k, hk with
  | 1, _ => exact (by decide +kernel)
  | 2, _ => exact (by decide +kernel)
  | 3, _ => exact (by decide +kernel)
  | 4, _ => exact (by decide +kernel)
  | 5, _ => exact (by decide +kernel)
  | 6, _ => exact (by decide +kernel)
  | 7, _ => exact (by decide +kernel)
  | 8, _ => exact (by decide +kernel)
  | 9, _ => exact (by decide +kernel)
  | k + 10, hk => omega

theorem range_un (n : Int) {len : Nat} (h : len = 5 ∨ len = 6 ∨ len = 12 ∨ len = 13 ∨ len = 21 ∨ len = 32) : (n % 2 ^ len = n) ↔ (0 ≤ n ∧ n ≤ 2 ^ len - 1) := by
  rcases h with rfl | rfl | rfl | rfl | rfl | rfl <;> omega
theorem range_sg (n : Int) {len : Nat} (h : len = 5 ∨ len = 6 ∨ len = 12 ∨ len = 13 ∨ len = 21 ∨ len = 32) :
    (n % 2 ^ len - (if bitN n (len - 1) == 1 then 2 ^ len else 0) = n) ↔ (-(2 : Int) ^ (len - 1) ≤ n ∧ n ≤ 2 ^ (len - 1) - 1) := by
  unfold bitN
  rcases h with rfl | rfl | rfl | rfl | rfl | rfl <;> simp only [Nat.add_one_sub_one, Nat.reduceSub, Int.reducePow, beq_iff_eq] <;> split <;> omega

theorem FormOk.own_bit {L : Lay} {l : List Int} (h : FormOk L l) (n : Int) {i : Nat} (hi : i < l.length) (hp : 0 ≤ l.getD i 0) : plZ (L.word n) (l.getD i 0) = bitN n (l.length - 1 - i) := by
  obtain ⟨h32, hs⟩ := h.own i hi hp
  have e := L.word_src h.ok n (q := (l.getD i 0).toNat) (by omega)
  rw [hs] at e
  simp only [List.any_cons, List.any_nil, Bool.or_false] at e
  unfold plZ bitZ
  rw [if_pos hp]
  have a : L.word n / 2 ^ (l.getD i 0).toNat % 2 = 0 ∨ L.word n / 2 ^ (l.getD i 0).toNat % 2 = 1 := by omega
  unfold tb at e
  rcases bitN_01 n (l.length - 1 - i) with b | b
  · rw [b]
    unfold bitN at b
    rw [b] at e
    rcases a with a | a
    · exact a
    · rw [a] at e; cases e
  · rw [b]
    unfold bitN at b
    rw [b] at e
    rcases a with a | a
    · rw [a] at e; cases e
    · exact a

/-- M2: what the program's Fits asks is what the document's asks. -/
theorem FormOk.fits {L : Lay} {l : List Int} (h : FormOk L l) (hlen : l.length = 5 ∨ l.length = 6 ∨ l.length = 12 ∨ l.length = 13 ∨ l.length = 21 ∨ l.length = 32) (n : Int) :
    (L.number (L.word n) == n) = fitsD n L.sg l := by
  obtain ⟨l1, l2, l3⟩ := h.len
  by_cases hn : ∀ j, j < L.nt → bitN n j = 0
  · have hb : ∀ i, i < l.length → plZ (L.word n) (l.getD i 0) = bitN n (l.length - 1 - i) := by
      intro i hi
      by_cases hp : 0 ≤ l.getD i 0
      · exact h.own_bit n hi hp
      · rw [hn _ ((h.nts i hi).1 (by omega))]; unfold plZ; rw [if_neg hp]
    have hnum : numD (L.word n) l = n % 2 ^ l.length := by
      have := fold_bits n l.length (L.word n) l l.length rfl (Nat.le_refl _) hb
      rw [List.take_length, Nat.sub_self, Int.pow_zero, Int.ediv_one] at this
      exact this
    have hbad : ∀ i, i < l.length → badAt n l i = false := by
      intro i hi
      unfold badAt
      by_cases hp : l.getD i 0 < 0
      · rw [hn _ ((h.nts i hi).1 hp)]; simp
      · rw [decide_eq_false hp]; rfl
    have hany : (List.range l.length).any (badAt n l) = false := List.any_eq_false.2 fun i hi => by rw [hbad i (List.mem_range.1 hi)]; simp
    rw [L.number_numR h.ok (fun s => (h.top s).1), h.pl]
    unfold numR fitsD
    rw [hnum, hany]
    cases hs : L.sg
    · have r := range_un n hlen
      rw [Bool.eq_iff_iff]
      simp only [beq_iff_eq, Bool.false_and, Bool.not_false, Bool.and_true, decide_eq_true_eq, Bool.false_eq_true, if_false, Int.sub_zero]
      exact r
    · have r := range_sg n hlen
      have e31 : bitZ (L.word n) 31 = bitN n (l.length - 1) := by
        have h0 := hb 0 (by omega)
        rw [(h.top hs).2] at h0
        exact h0
      rw [Bool.eq_iff_iff, e31]
      simp only [beq_iff_eq, Bool.true_and, Bool.not_false, Bool.and_true, decide_eq_true_eq, if_true]
      simp only [beq_iff_eq] at r
      exact r
  · obtain ⟨j, hj⟩ : ∃ j, ¬ (j < L.nt → bitN n j = 0) := by
      simpa using hn
    have hj1 : j < L.nt := by
      by_cases c : j < L.nt
      · exact c
      · exact absurd (fun h => absurd h c) hj
    have hj2 : bitN n j = 1 := by
      rcases bitN_01 n j with b | b
      · exact absurd (fun _ => b) hj
      · exact b
    have hi : l.length - 1 - j < l.length := by omega
    have hij : l.length - 1 - (l.length - 1 - j) = j := by omega
    have hbad : badAt n l (l.length - 1 - j) = true := by
      unfold badAt
      rw [hij, hj2, decide_eq_true ((h.nts _ hi).2 (by rw [hij]; exact hj1))]; rfl
    rw [fitsD_bad hi hbad, beq_eq_false_iff_ne]
    intro e
    have z : n % 2 ^ L.nt = 0 := by
      rw [← e]; unfold Lay.number; exact Int.mul_emod_left _ _
    rw [zero_mod n _ j hj1 z] at hj2
    cases hj2

end Go.Proofs.YtehlihhnkojjeaaDoor
