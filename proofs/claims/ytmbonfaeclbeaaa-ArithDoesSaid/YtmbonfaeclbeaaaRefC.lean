/- The contracts of the document's own answers for layer 1: signs drawn out, and whether they are; single bits. -/
import Derived.Test.YtmbonfaeclbeaaaRefB
namespace Go.Proofs.Ytmbonfaeclbeaaa
open Go.RowKit
set_option linter.unusedVariables false

theorem canon_all {w : BitVec 64} {n : Int} (h : 1 ≤ n) : canonB w n = true ↔ ∀ i : Nat, i < 64 → n ≤ (i : Int) → w.getLsbD i = w.getLsbD (n.toNat - 1) := by
  unfold canonB
  rw [decide_eq_true h, Bool.true_and, decide_eq_true_eq]
  constructor
  · intro e i hi hn
    have := sext_bit w (show ¬ n < 1 by omega) i
    rw [e, decide_eq_true hi, if_neg (by omega), Bool.true_and] at this
    exact this
  · intro e
    refine ext64 fun i hi => ?_
    rw [sext_bit w (by omega), decide_eq_true hi, Bool.true_and]
    by_cases c : (i : Int) < n
    · rw [if_pos c]
    · rw [if_neg c]; exact (e i hi (by omega)).symm

set_option maxHeartbeats 800000 in
set_option maxRecDepth 100000 in
theorem refSext_any (x n : Int) (hx : In64 x) (w : World) :
    Calls Try.prog 54 #[.int .u64 x, .int .i64 n] w fun e w' => e = .returned (.int .u64 (U (sextB (V x) n))) ∧ Below w.heap.size w w' := by
  by_cases h : n < 1
  · have HE := Lib.hid (sext_lo (w := V x) h)
    go_enter Try.func54, Try.ntmps54
    go_wp2
    go_ret
    exact ⟨ret_int HE.out, Below.refl _ _⟩
  have HE : Hid (sextB (V x) n = ofF fun i => if (i : Int) < n then (V x).getLsbD i else (V x).getLsbD (n.toNat - 1)) := by unfold sextB; rw [if_neg h]; rfl
  have hn1 : 1 ≤ n := by omega
  go_enter Try.func54, Try.ntmps54
  go_wp2_with fail
  refine (split_any x hx _).mono ?_
  rintro e w1 ⟨rfl, hb1⟩
  go_wp2_with (refine wpList_store_row rfl _ _ _ rfl w1.heap.size _ rfl rfl 52 _ (heap_alloc_new w1 _) ?_ (by rw [barr_size]; rfl) (barr_one _ _) ?_; · exact size48.trans (by rw [barr_size]))
  simp only [zero64]
  obtain ⟨A1, A2, A3⟩ := one_array hb1 (V x).getLsbD
  generalize ((w1.alloc (.cells (barr 64 fun _ => false) 52)).setRow w1.heap.size (barr 64 (V x).getLsbD)) = wa at *
  have hne := hb1.size
  clear hb1 A3
  go_loopw [6] (fun i wr => ∃ k : Nat, k ≤ 64 ∧ i = .int .i64 k ∧ HoldsB wr w1.heap.size 52 64 (fun j => if j < k ∧ n ≤ (j : Int) then (V x).getLsbD (n.toNat - 1) else (V x).getLsbD j) ∧ Below w.heap.size w wr)
    (fun i _ => 64 - (intOf i).toNat)
  case atStart => exact ⟨0, Nat.zero_le _, rfl, A1.congr fun i _ => by simp, A2⟩
  case round =>
    obtain ⟨k, hk, rfl, h2, hb⟩ := hrel
    by_cases hlt : k < 64
    · by_cases hin : n ≤ (k : Int)
      · obtain ⟨m, rfl⟩ : ∃ m : Nat, n = (m : Int) + 1 := ⟨(n - 1).toNat, by omega⟩
        have hc := h2.cell (show m < 64 by omega)
        have hc2 := h2.cell hlt
        rw [if_neg (by omega)] at hc
        have hf := h2.frozen k
        go_wp2
        refine ⟨⟨k + 1, by omega, by go_num, (h2.set k _).congr fun i hi => ?_, hb.setCell (by simpa using hne) _⟩, by simp [intOf]; omega⟩
        have em : ((m : Int) + 1).toNat - 1 = m := by omega
        by_cases e : i = k
        · subst e
          rw [if_pos rfl, if_pos ⟨by omega, hin⟩, em]
        · rw [if_neg e]
          by_cases c : i < k ∧ (m : Int) + 1 ≤ (i : Int)
          · rw [if_pos c, if_pos ⟨by omega, c.2⟩]
          · rw [if_neg c, if_neg (by omega)]
      · go_wp2
        refine ⟨⟨k + 1, by omega, by go_num, h2.congr fun i hi => ?_, hb⟩, by simp [intOf]; omega⟩
        by_cases c : i < k ∧ n ≤ (i : Int)
        · rw [if_pos c, if_pos ⟨by omega, c.2⟩]
        · rw [if_neg c, if_neg (by omega)]
    · obtain rfl : k = 64 := by omega
      have h3 : HoldsB wr w1.heap.size 52 64 (fun j => if (j : Int) < n then (V x).getLsbD j else (V x).getLsbD (n.toNat - 1)) := h2.congr fun i hi => by
        by_cases c : (i : Int) < n
        · rw [if_pos c, if_neg (by omega)]
        · rw [if_neg c, if_pos ⟨hi, by omega⟩]
      clear h2
      go_wp2_with (first
        | (go_at_call 58; refine (join_any _ _).mono ?_; rintro e w' ⟨rfl, hj⟩)
        | (refine wpList_load_row rfl _ _ rfl (w1.heap.size) rfl 52 _ _ _ h3 Try.underlying52 rfl ?_ ?_; · exact size48.trans (by rw [barr_size])))
      go_ret
      exact ⟨ret_int (by rw [HE.out]), hb.trans (hj.mono hb.size)⟩

theorem size4 : (Try.prog.info? 4).map (·.size) = some 1 := by kernel_rfl
/-- An element of an array of bools. -/
theorem index_barr (f : Nat → Bool) (k : Nat) (hk : k < 64) (w : World) : (Instr.index 52 (.agg (barr 64 f)) (.int .i64 k)).run Try.prog w = .ok (.bool (f k)) w := by
  have hg : (barr 64 f)[k]? = some (.bool (f k)) := varr_get 64 _ k hk
  have hsz : (sizeOf 4).run Try.prog w = .ok 1 w := by
    cases hq : Try.prog.info? 4 with
    | none => have := size4; rw [hq] at this; cases this
    | some i => have := size4; rw [hq] at this; simp at this; simp [sizeOf, typeInfo, hq, this]
  have h1 : (0 : Int) ≤ k ∧ (k : Int) < ((64 : Nat) : Int) := by omega
  simp only [Instr.index, Sem.run_bind, asIntOf, Sem.run_pure, Result.andThen_ok, run_underlying Try.underlying52 w]
  rw [if_pos h1]
  simp [Sem.run_bind, hsz, part, hg]

end Go.Proofs.Ytmbonfaeclbeaaa
