/- The contracts of the document's own answers for layer 1: a word as 64 bools, and back. -/
import Derived.Test.YtflaadnlmcgfoaaROfBits
import Derived.Below
import Derived.Test.YtflaadnlmcgfoaaRArr
namespace Go.Proofs.YtflaadnlmcgfoaaR
open Go.RowKit
set_option linter.unusedVariables false
set_option maxRecDepth 100000

theorem split_low (b : BitVec 64) (k : Nat) : (U (b >>> k) % 2 == 1) = b.getLsbD k := by
  rw [Bool.eq_iff_iff, beq_iff_eq]
  unfold U; rw [BitVec.toNat_ushiftRight, Nat.shiftRight_eq_div_pow, bit_div, decide_eq_true_eq]; omega
theorem split_half (b : BitVec 64) (k : Nat) : U (b >>> k) / 2 = U (b >>> (k + 1)) := by
  unfold U; rw [BitVec.toNat_ushiftRight, BitVec.toNat_ushiftRight, Nat.shiftRight_eq_div_pow, Nat.shiftRight_eq_div_pow, Nat.pow_succ, ← Nat.div_div_eq_div_mul]; omega
theorem join_step (b : BitVec 64) (k : Nat) : 2 * U (b >>> (k + 1)) + (if b.getLsbD k = true then 1 else 0) = U (b >>> k) := by
  have h := split_half b k
  have l := split_low b k
  have n := (U_in (b >>> k)).1
  generalize U (b >>> k) = y at *
  rw [← h, ← l]
  by_cases e : y % 2 = 1
  · rw [if_pos (beq_iff_eq.2 e)]; omega
  · rw [if_neg (by rw [beq_iff_eq]; exact e)]; omega

theorem zero64 : (#[.bool false, .bool false, .bool false, .bool false, .bool false, .bool false, .bool false, .bool false, .bool false, .bool false, .bool false, .bool false, .bool false, .bool false, .bool false, .bool false, .bool false, .bool false, .bool false, .bool false, .bool false, .bool false, .bool false, .bool false, .bool false, .bool false, .bool false, .bool false, .bool false, .bool false, .bool false, .bool false, .bool false, .bool false, .bool false, .bool false, .bool false, .bool false, .bool false, .bool false, .bool false, .bool false, .bool false, .bool false, .bool false, .bool false, .bool false, .bool false, .bool false, .bool false, .bool false, .bool false, .bool false, .bool false, .bool false, .bool false, .bool false, .bool false, .bool false, .bool false, .bool false, .bool false, .bool false, .bool false] : Array Value) = barr 64 fun _ => false := rfl

theorem size48 : (Try.prog.info? 45).map (·.size) = some 64 := by kernel_rfl

set_option maxRecDepth 100000 in
theorem split_any (x : Int) (hx : In64 x) (w : World) :
    Calls Try.prog 34 #[.int .u64 x] w fun e w' => e = .returned (.agg (barr 64 (V x).getLsbD)) ∧ Below w.heap.size w w' := by
  go_enter Try.func34, Try.ntmps34
  go_wp2
  simp only [zero64]
  go_loopw [0, 4] (fun y i wr => ∃ k : Nat, k ≤ 64 ∧ i = .int .i64 k ∧ y = .int .u64 (U (V x >>> k)) ∧ HoldsB wr w.heap.size 45 64 (fun _ => false) ∧ HoldsB wr (w.heap.size + 1) 45 64 (fun j => decide (j < k) && (V x).getLsbD j) ∧ Below w.heap.size w wr)
    (fun _ i _ => 64 - (intOf i).toNat)
  case atStart =>
    refine ⟨0, Nat.zero_le _, rfl, ?_, heap_alloc2_old w _ _, (heap_alloc2_new w _ _).trans ?_, ((Below.refl _ _).alloc (Nat.le_refl _) _).alloc (by simp) _⟩
    · rw [BitVec.ushiftRight_zero, U_V hx]
    · simp
  case round =>
    obtain ⟨k, hk, rfl, rfl, h1, h2, hb⟩ := hrel
    by_cases hlt : k < 64
    · have hc := h2.cell hlt
      have hf := h2.frozen k
      have hn := (U_in (V x >>> k)).1
      have L := Lib.hid (split_low (V x) k)
      have H := Lib.hid (split_half (V x) k)
      have hu := (U_in (V x >>> k)).2
      generalize U (V x >>> k) = y at *
      go_wp2
      rw [L.out]
      refine ⟨⟨k + 1, by omega, by go_num, by rw [H.out], h1.other (by simp) _, (h2.set k _).congr fun i hi => ?_, hb.setCell (by simp) _⟩, by simp [intOf]; omega⟩
      by_cases e : i = k
      · subst e; simp
      · simp only [e, if_false]; congr 1; rw [decide_eq_decide]; omega
    · obtain rfl : k = 64 := by omega
      have h3 : HoldsB wr (w.heap.size + 1) 45 64 (V x).getLsbD := h2.congr fun i hi => by simp [hi]
      clear h2
      go_wp2_with (first
        | (refine wpList_load_row rfl _ _ rfl (w.heap.size + 1) rfl 45 _ _ _ h3 Try.underlying45 rfl ?_ ?_; · exact size48.trans (by rw [barr_size]))
        | (refine wpList_store_row rfl _ _ _ rfl w.heap.size _ rfl rfl 45 _ h1 ?_ (by rw [barr_size, barr_size]) (barr_one _ _) ?_; · exact size48.trans (by rw [barr_size])))
      refine bodyPost_ret (v := .agg (barr 64 (V x).getLsbD)) (results_cell_row (show Try.f34.results = #[.cell 2 45] by kernel_rfl) _ _ w.heap.size 45 _ _ _ rfl (h1.setRow _) Try.underlying45 rfl (size48.trans (by rw [barr_size]))) rfl ⟨rfl, below_setRow hb (Nat.le_refl _) _⟩

set_option maxRecDepth 100000 in
theorem join_any (f : Nat → Bool) (w : World) :
    Calls Try.prog 40 #[.agg (barr 64 f)] w fun e w' => e = .returned (.int .u64 (U (ofF f))) ∧ Below w.heap.size w w' := by
  have hc : ∀ k, k < 64 → (w.alloc (.cells (barr 64 f) 45)).cell? ⟨w.heap.size, k, none⟩ = some (.bool (f k)) := fun k hk => by
    rw [cell_of_row _ w.heap.size k _ 45 (0, 0) (heap_alloc_new w _)]; exact varr_get 64 _ k hk
  have HC := Lib.hid hc
  clear hc
  go_enter Try.func40, Try.ntmps40
  go_wp2
  go_loop [3, 4] (fun y i => ∃ k : Nat, k ≤ 64 ∧ i = .int .i64 ((k : Int) - 1) ∧ y = .int .u64 (U (ofF f >>> k))) (fun _ i => (intOf i + 1).toNat)
  case atStart => exact ⟨64, Nat.le_refl _, rfl, by rw [BitVec.ushiftRight_eq_zero (Nat.le_refl _)]; rfl⟩
  case round =>
    obtain ⟨k, hk, rfl, rfl⟩ := hrel
    cases k with
    | succ m =>
      have hcell := HC.out m (by omega)
      have J := Lib.hid (join_step (ofF f) m)
      have hb : (ofF f).getLsbD m = f m := by rw [bit_ofF, decide_eq_true (show m < 64 by omega), Bool.true_and]
      rw [hb] at J
      have hn := (U_in (ofF f >>> (m + 1))).1
      have hu := (U_in (ofF f >>> m)).2
      have hj := J.out
      generalize U (ofF f >>> (m + 1)) = y at *
      rw [show ((m + 1 : Nat) : Int) - 1 = (m : Int) by omega]
      cases hfm : f m
      · rw [hfm] at hj hcell
        simp only [Bool.false_eq_true, if_false] at hj
        have hy : 2 * y < 18446744073709551616 := by omega
        have E := Lib.hid hj
        clear hj hb J hu
        go_wp2
        go_round
        case rel => exact ⟨m, by omega, rfl, by rw [← E.out, Int.add_zero]⟩
        case measure => simp [intOf]
      · rw [hfm] at hj hcell
        simp only [if_true] at hj
        have hy : 2 * y + 1 < 18446744073709551616 := by omega
        have E := Lib.hid hj
        clear hj hb J hu
        go_wp2
        go_round
        case rel => exact ⟨m, by omega, rfl, by rw [← E.out]⟩
        case measure => simp [intOf]
    | zero =>
      go_wp2
      go_ret
      exact ⟨rfl, (Below.refl _ _).alloc (Nat.le_refl _) _⟩

end Go.Proofs.YtflaadnlmcgfoaaR
