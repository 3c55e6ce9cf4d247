/- Layer 3's laws: bytes told by both; any act by both. -/
import Derived.Test.YtoghdkhlliehoaaBoth2
namespace Go.Proofs.Ytoghdkhlliehoaa
open Go.RowKit
set_option linter.unusedVariables false
set_option maxRecDepth 100000

theorem bytesV_255 {base size : Int} {m : Int → Int} (hm : Bytey m) (x n : Int) : Bytes255 (bytesV base size m x n) := by
  unfold bytesV
  split
  · intro i hi
    rw [bytesL_len] at hi
    rw [bytesL_get m x _ i hi]
    exact hm _
  · intro i hi; simp at hi

theorem bytesV_len {base size : Int} {m : Int → Int} (hf : Fits base size) (x n : Int) (hn : n ≤ 100000 ∨ 67108864 < n) : (bytesV base size m x n).length ≤ 100000 := by
  unfold bytesV
  split
  · rename_i h
    rw [bytesL_len]
    unfold hasZ at h; rw [decide_eq_true_eq] at h
    obtain ⟨f1, f2, f3, f4⟩ := hf
    omega
  · simp

theorem both_bytes_no (R : Spec) (w : World) (b : Nat) (S : Nat → Prop) (b2 g2 : Nat) (base size : Int) (N : Nat) (m : Int → Int) (a n v : Int) (bv : Value) (bs : List Int) (h : Pair R w b S b2 g2 base size N m) (h1 : 5000 < n) (h2 : n ≤ 67108864) :
    Calls Try.prog 10 #[.pointer (some ⟨b, 0, none⟩), .pointer (some ⟨b2, 0, none⟩), .agg #[.int .i64 3, .int .u64 a, .int .i64 n, .int .u64 v, bv]] w (BothEnd R w b S b2 g2 base size N) := by
  have hB : Below w.heap.size w (w.alloc (.cells (actCells ⟨3, a, n, v, bv, bs⟩) 40)) := (Below.refl _ _).alloc (Nat.le_refl _) _
  have HE := Lib.hid (h.end_same hB (Nat.le_refl N))
  clear h hB
  go_enter Try.func10, Try.ntmps10
  go_wp2
  go_ret
  exact ⟨rfl, _, HE.out⟩

set_option maxRecDepth 100000 in
set_option maxHeartbeats 1000000 in
theorem both_bytes (R : Spec) (w : World) (b : Nat) (S : Nat → Prop) (b2 g2 : Nat) (base size : Int) (N : Nat) (m : Int → Int) (a n v : Int) (bv : Value) (bs : List Int) (h : Pair R w b S b2 g2 base size N m) (ia : In64 a) (inn : In63 n) (hn : n ≤ 5000 ∨ 67108864 < n) :
    Calls Try.prog 10 #[.pointer (some ⟨b, 0, none⟩), .pointer (some ⟨b2, 0, none⟩), .agg #[.int .i64 3, .int .u64 a, .int .i64 n, .int .u64 v, bv]] w (BothEnd R w b S b2 g2 base size N) := by
  have hA := ActBox.new w ⟨3, a, n, v, bv, bs⟩
  have hB : Below w.heap.size w (w.alloc (.cells (actCells ⟨3, a, n, v, bv, bs⟩) 40)) := (Below.refl _ _).alloc (Nat.le_refl _) _
  have hP0 := h.same hB
  have HBY := Lib.hid (bytesV_255 (base := base) (size := size) (R.bytey h.1) a n)
  have HP := Lib.hid hP0
  have HA := Lib.hid hA
  have HB := Lib.hid hB
  have HN : Hid (n ≤ 100000 ∨ 67108864 < n) := by rcases hn with hn | hn; exact .inl (by omega); exact .inr hn
  have HLE := Lib.hid (bytesV_len (m := m) hP0.2.2.2.2.2 a n HN.out)
  have HSZ := Lib.hid (show (w.alloc (.cells (actCells ⟨3, a, n, v, bv, bs⟩) 40)).heap.size = w.heap.size + 1 from World.size_alloc _ _)
  have hn2 : n ≤ 5000 ∨ ¬ n ≤ 5000 ∧ ¬ n ≤ 67108864 := by omega
  clear h hA hB hP0 hn
  rcases hn2 with hn2 | ⟨hn2, hn3⟩
  all_goals
    go_enter Try.func10, Try.ntmps10
    go_wp2_with fail
    refine (R.bytes a n HP.out.1 HP.out.2.2.2.2.2 ia inn HN.out).mono ?_
    rintro e w1 ⟨hE, a1, n1, c1, rfl, hown⟩
    obtain ⟨g1, a1', c1', hv, hg1, hw1, hr1⟩ := writable HBY.out hown
    injection hv with hv1 hv2 hv3
    subst hv1 hv2 hv3
    have hA1 := HA.out.keeps (Only.of_below (fun _ => False) hE) id
    obtain ⟨_, q1, q2, q3, q4⟩ := hA1.cells
    have HE := Lib.hid hE
    have HP1 := Lib.hid (HP.out.same hE)
    have HG := Lib.hid hg1
    have HW := Lib.hid hw1
    have HR1 := Lib.hid hr1
    clear hA1 hown hE hg1 hw1 hr1
    go_wp2_with fail
    refine (mem_bytes _ b2 g2 base size N m a n HP1.out.2.1 HP1.out.2.2.2.2.2 ia HN.out).mono ?_
    rintro e w2 ⟨hE2, a2, n2, c2, rfl, hown2⟩
    obtain ⟨g3, a3', c3', hv, _, _, hr2⟩ := writable HBY.out hown2
    injection hv with hv1 hv2 hv3
    subst hv1 hv2 hv3
    have HE2 := Lib.hid hE2
    have HR2 := Lib.hid hr2
    have HR1' := Lib.hid (HR1.out.below hE2)
    have HW2 := Lib.hid (HW.out.keeps (Only.of_below (fun _ => False) hE2) id)
    clear hE2 hown2 hr2
    generalize bytesV base size m a n = xs at *
    have hle := HLE.out
    generalize hasZ base size a n = r at *
    clear q1 q2 q3 q4
    go_wp2_with fail
    refine (sameB_any g1 g3 _ _ xs xs w2 HR1'.out HR2.out HBY.out HBY.out).mono ?_
    rintro e w' ⟨rfl, rfl⟩
    have hdt : decide (xs = xs) = true := decide_eq_true rfl
    rw [hdt]
    clear hdt
    go_wp2_with fail
    go_loopw [20] (fun i wr => ∃ k : Nat, k ≤ xs.length ∧ i = .int .i64 k ∧ Only (fun i => i = g1) w2 wr ∧ Writable wr g1 xs.length ∧ (xs = [] → w2 = wr)) (fun i _ => xs.length - (intOf i).toNat)
    case atStart => exact ⟨0, Nat.zero_le _, rfl, Only.refl _ _, HW2.out, fun _ => rfl⟩
    case round =>
      obtain ⟨k, hk, rfl, ho, hWr, hnil⟩ := hrel
      by_cases hlt : k < xs.length
      · rcases HG.out with h0 | ⟨rfl, hg2, hg3⟩
        · subst h0; simp at hlt
        have HWr := Lib.hid hWr
        rcases hWr with h0 | ⟨cur, hh, hn, hc⟩
        · omega
        obtain ⟨u, hu, u0, u1⟩ := hc k hlt
        have hcell := (cell_of_row wr g1 k cur _ _ hh).trans hu
        have hfz := frozen_of_row wr g1 k cur _ hh
        have HO := Lib.hid ho
        clear hh hc hu ho hnil
        go_wp2
        exact ⟨⟨k + 1, by omega, by go_num, HO.out.setCell (p := ⟨g1, k, none⟩) (.inl rfl) _, HWr.out.set _ (by omega) (by omega), fun h => by subst h; simp at hlt⟩, by simp [intOf]; omega⟩
      · obtain rfl : k = xs.length := by omega
        have hB3 : Below (w.alloc (.cells (actCells ⟨3, a, n, v, bv, bs⟩) 40)).heap.size (w.alloc (.cells (actCells ⟨3, a, n, v, bv, bs⟩) 40)) wr := by
          have h2 := HE.out.trans (HE2.out.mono HE.out.size)
          rcases HG.out with h0 | ⟨_, h1, _⟩
          · rw [← hnil h0]; exact h2
          · exact Below.thenOnly h2 ho (by rintro i rfl; exact h1) h2.size
        have HPE := Lib.hid (HP.out.end_same hB3 (Nat.le_refl N))
        clear hB3 ho hWr hnil
        go_wp2
        go_ret
        exact ⟨ret_bool (by simp), _, HPE.out.before HB.out⟩

end Go.Proofs.Ytoghdkhlliehoaa
