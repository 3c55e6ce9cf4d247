/- The contracts of the document's own answers for layer 1: pieces put, signs drawn out. -/
import Derived.Test.YtbhknchpiagciaaRefA
namespace Go.Proofs.Ytbhknchpiagciaa
open Go.RowKit
set_option linter.unusedVariables false

/-- A new array, written whole with a word's bits, behind what was there. -/
theorem one_array {w w1 : World} (hb : Below w.heap.size w w1) (f : Nat → Bool) : HoldsB ((w1.alloc (.cells (barr 64 fun _ => false) 48)).setRow w1.heap.size (barr 64 f)) w1.heap.size 48 64 f ∧
    Below w.heap.size w ((w1.alloc (.cells (barr 64 fun _ => false) 48)).setRow w1.heap.size (barr 64 f)) ∧ ((w1.alloc (.cells (barr 64 fun _ => false) 48)).setRow w1.heap.size (barr 64 f)).heap.size = w1.heap.size + 1 :=
  ⟨HoldsB.laid w1 48 64 _ f, below_setRow (hb.alloc hb.size _) hb.size _, laid_size w1 _ _ _⟩

set_option maxHeartbeats 800000 in
set_option maxRecDepth 100000 in
theorem refPut_any (x lo n y : Int) (hx : In64 x) (hy : In64 y) (w : World) :
    Calls Try.prog 24 #[.int .u64 x, .int .i64 lo, .int .i64 n, .int .u64 y] w fun e w' => e = .returned (.int .u64 (U (putB (V x) lo n (V y)))) ∧ Below w.heap.size w w' := by
  have HE : Hid (putB (V x) lo n (V y) = ofF fun i => if 0 ≤ lo ∧ lo < 64 ∧ lo ≤ (i : Int) ∧ (i : Int) - lo < n then (V y).getLsbD (i - lo.toNat) else (V x).getLsbD i) := by
    by_cases h : 0 ≤ lo ∧ lo < 64
    · refine ext64 fun i hi => ?_
      rw [put_bit _ _ _ h, bit_ofF]
      congr 1
      by_cases c : lo.toNat ≤ i ∧ (i : Int) - lo < n
      · rw [if_pos c, if_pos ⟨h.1, h.2, by omega, c.2⟩]
      · rw [if_neg c, if_neg (by omega)]
    · rw [put_out h]
      refine ext64 fun i hi => ?_
      rw [bit_ofF, decide_eq_true hi, if_neg (by omega), Bool.true_and]
  go_enter Try.func24, Try.ntmps24
  go_wp2_with fail
  refine (split_any x hx _).mono ?_
  rintro e w1 ⟨rfl, hb1⟩
  go_wp2_with (first | (go_at_call 36; fail) | (refine wpList_store_row rfl _ _ _ rfl w1.heap.size _ rfl rfl 48 _ (heap_alloc_new w1 _) ?_ (by rw [barr_size]; rfl) (barr_one _ _) ?_; · exact size48.trans (by rw [barr_size])))
  simp only [zero64]
  obtain ⟨A1, A2, A3⟩ := one_array hb1 (V x).getLsbD
  generalize ((w1.alloc (.cells (barr 64 fun _ => false) 48)).setRow w1.heap.size (barr 64 (V x).getLsbD)) = wa at *
  refine (split_any y hy _).mono ?_
  rintro e w2 ⟨rfl, hb2⟩
  have B2 : Below w.heap.size w w2 := A2.trans (hb2.mono A2.size)
  have B3 := A1.below hb2 A1.lt
  have B4 := hb2.size
  go_wp2_with (refine wpList_store_row rfl _ _ _ rfl w2.heap.size _ rfl rfl 48 _ (heap_alloc_new w2 _) ?_ (by rw [barr_size]; rfl) (barr_one _ _) ?_; · exact size48.trans (by rw [barr_size]))
  simp only [zero64]
  obtain ⟨C1, C2, C3⟩ := one_array B2 (V y).getLsbD
  have C4 := (B3.alloc (.cells (barr 64 fun _ => false) 48)).setRow_other (g' := w2.heap.size) (by omega) (barr 64 (V y).getLsbD)
  generalize ((w2.alloc (.cells (barr 64 fun _ => false) 48)).setRow w2.heap.size (barr 64 (V y).getLsbD)) = wb at *
  have hne : w1.heap.size < w2.heap.size := by omega
  have hne2 := hb1.size
  clear hb1 hb2 A1 A2 B2 B3
  go_loopw [11] (fun i wr => ∃ k : Nat, k ≤ 64 ∧ i = .int .i64 k ∧ HoldsB wr w2.heap.size 48 64 (V y).getLsbD ∧ HoldsB wr w1.heap.size 48 64 (fun j => if j < k ∧ 0 ≤ lo ∧ lo < 64 ∧ lo ≤ (j : Int) ∧ (j : Int) - lo < n then (V y).getLsbD (j - lo.toNat) else (V x).getLsbD j) ∧ Below w.heap.size w wr)
    (fun i _ => 64 - (intOf i).toNat)
  case atStart => exact ⟨0, Nat.zero_le _, rfl, C1, C4.congr fun i _ => by simp, C2⟩
  case round =>
    obtain ⟨k, hk, rfl, hA, h2, hb⟩ := hrel
    by_cases hlt : k < 64
    · by_cases hin : 0 ≤ lo ∧ lo < 64 ∧ lo ≤ (k : Int) ∧ (k : Int) - lo < n
      · have hd := decide_eq_true hin
        obtain ⟨hi1, hi2, hi3, hi4⟩ := hin
        obtain ⟨l, rfl⟩ := Int.eq_ofNat_of_zero_le hi1
        have hle : l ≤ k := by omega
        have hc := hA.cell (show k - l < 64 by omega)
        have hc2 := h2.cell hlt
        have hf := h2.frozen k
        go_wp2_with (go_at_call 37; refine (in_any _ _ _ hlt _).mono ?_; rintro e w' ⟨rfl, rfl⟩)
        refine ⟨⟨k + 1, by omega, by go_num, hA.other (by simp; omega) _, (h2.set k _).congr fun i hi => ?_, hb.setCell (by simpa using hne2) _⟩, by simp [intOf]; omega⟩
        by_cases e : i = k
        · subst e
          rw [if_pos rfl, if_pos ⟨by omega, hi1, hi2, hi3, hi4⟩]; rfl
        · rw [if_neg e]
          by_cases c : i < k ∧ 0 ≤ (l : Int) ∧ (l : Int) < 64 ∧ (l : Int) ≤ (i : Int) ∧ (i : Int) - l < n
          · rw [if_pos c, if_pos ⟨by omega, c.2⟩]
          · rw [if_neg c, if_neg (by omega)]
      · have hd := decide_eq_false hin
        go_wp2_with (go_at_call 37; refine (in_any _ _ _ hlt _).mono ?_; rintro e w' ⟨rfl, rfl⟩)
        refine ⟨⟨k + 1, by omega, by go_num, hA, h2.congr fun i hi => ?_, hb⟩, by simp [intOf]; omega⟩
        by_cases c : i < k ∧ 0 ≤ lo ∧ lo < 64 ∧ lo ≤ (i : Int) ∧ (i : Int) - lo < n
        · rw [if_pos c, if_pos ⟨by omega, c.2⟩]
        · rw [if_neg c]
          by_cases e : i = k
          · subst e; rw [if_neg (fun h => hin h.2)]
          · rw [if_neg (by omega)]
    · obtain rfl : k = 64 := by omega
      have h3 : HoldsB wr w1.heap.size 48 64 (fun j => if 0 ≤ lo ∧ lo < 64 ∧ lo ≤ (j : Int) ∧ (j : Int) - lo < n then (V y).getLsbD (j - lo.toNat) else (V x).getLsbD j) := h2.congr fun i hi => by
        by_cases c : 0 ≤ lo ∧ lo < 64 ∧ lo ≤ (i : Int) ∧ (i : Int) - lo < n
        · rw [if_pos c, if_pos ⟨hi, c⟩]
        · rw [if_neg c, if_neg (fun h => c h.2)]
      clear h2
      go_wp2_with (first
        | (go_at_call 35; refine (join_any _ _).mono ?_; rintro e w' ⟨rfl, hj⟩)
        | (refine wpList_load_row rfl _ _ rfl (w1.heap.size) rfl 48 _ _ _ h3 Try.underlying48 rfl ?_ ?_; · exact size48.trans (by rw [barr_size])))
      go_ret
      exact ⟨ret_int (by rw [HE.out]), hb.trans (hj.mono hb.size)⟩

end Go.Proofs.Ytbhknchpiagciaa
