/- Layer 3's laws: bytes put and told by two memories that are none; any act by both. -/
import Derived.Test.YtoghdkhlliehoaaBothNil
namespace Go.Proofs.Ytoghdkhlliehoaa
open Go.RowKit
set_option linter.unusedVariables false
set_option maxRecDepth 100000

set_option maxRecDepth 100000 in
set_option maxHeartbeats 1000000 in
theorem bothNil_put (R : NilSpec) (w : World) (gx : Nat) (a n v : Int) (bv : Value) (bs : List Int) (hr : ReadsIn .u8 gx w bv bs) (hbs : Bytes255 bs) (hl : bs.length ≤ 3000) :
    Calls Try.prog 10 #[.pointer none, .pointer none, .agg #[.int .i64 2, .int .u64 a, .int .i64 n, .int .u64 v, bv]] w (NilEnd w) := by
  have hA := ActBox.new w ⟨2, a, n, v, bv, bs⟩
  have hB : Below w.heap.size w (w.alloc (.cells (actCells ⟨2, a, n, v, bv, bs⟩) 40)) := (Below.refl _ _).alloc (Nat.le_refl _) _
  have hr0 := hr.below hB
  have hsz : (w.alloc (.cells (actCells ⟨2, a, n, v, bv, bs⟩) 40)).heap.size = w.heap.size + 1 := World.size_alloc _ _
  obtain ⟨v1, w1, hrun, hown, hb1⟩ := append_copy8 _ bv bs hr0.toL hl
  obtain ⟨g1, a1, c1, rfl, hg1, hw1, hv1⟩ := writable hbs hown
  have hA1 := hA.keeps (Only.of_below (fun _ => False) hb1) id
  obtain ⟨_, q1, _, _, q4⟩ := hA1.cells
  have HA1 := Lib.hid hA1
  simp only [actCells, World.size_alloc] at hrun
  have HRUN := Lib.hid hrun
  have HB := Lib.hid hB
  have HG := Lib.hid hg1
  have HW := Lib.hid hw1
  have HB1 := Lib.hid hb1
  have HSZ := Lib.hid hsz
  have hv0 := hr
  obtain ⟨abv, cbv, hbv, _⟩ := hv0
  subst hbv
  clear hA hB hr0 hrun hown hg1 hw1 hv1 hb1 hbs hr hA1 hsz
  go_enter Try.func10, Try.ntmps10
  go_wp2_with (at_builtin; refine wpList_append_run rfl _ _ _ rfl _ _ (.slice a1 bs.length c1) w1 rfl rfl HRUN.out ?_)
  refine (R.put a _ _ _ _).mono ?_
  rintro e w2 ⟨rfl, hE⟩
  have hA2 := HA1.out.keeps (Only.of_below (fun _ => False) hE) id
  have HA2 := Lib.hid hA2
  have HW2 := Lib.hid (HW.out.keeps (Only.of_below (fun _ => False) hE) id)
  have HE := Lib.hid hE
  clear hA2 hE q1 q4
  go_wp2_with fail
  go_loopw [14] (fun i wr => ∃ k : Nat, k ≤ bs.length ∧ i = .int .i64 k ∧ Only (fun i => i = g1) w2 wr ∧ Writable wr g1 bs.length ∧ (bs = [] → w2 = wr)) (fun i _ => bs.length - (intOf i).toNat)
  case atStart => exact ⟨0, Nat.zero_le _, rfl, Only.refl _ _, HW2.out, fun _ => rfl⟩
  case round =>
    obtain ⟨k, hk, rfl, ho, hWr, hnil⟩ := hrel
    by_cases hlt : k < bs.length
    · rcases HG.out with h0 | ⟨rfl, hg2, hg3⟩
      · subst h0; simp at hlt
      have HWr := Lib.hid hWr
      rcases hWr with h0 | ⟨cur, hh, hn, hc⟩
      · omega
      obtain ⟨u, hu, u0, u1⟩ := hc k hlt
      have hcell := (cell_of_row wr g1 k cur _ _ hh).trans hu
      have hfz := frozen_of_row wr g1 k cur _ hh
      have HO := Lib.hid ho
      clear hh hc hu ho hnil
      go_wp2
      exact ⟨⟨k + 1, by omega, by go_num, HO.out.setCell (p := ⟨g1, k, none⟩) (.inl rfl) _, HWr.out.set _ (by omega) (by omega), fun h => by subst h; simp at hlt⟩, by simp [intOf]; omega⟩
    · obtain rfl : k = bs.length := by omega
      have hne : bs = [] ∨ (w.heap.size < g1) := by
        rcases HG.out with h0 | ⟨_, h1, _⟩
        · exact .inl h0
        · exact .inr (by have := HSZ.out; omega)
      have hA3 : ActBox wr w.heap.size ⟨2, a, n, v, .slice abv bs.length cbv, bs⟩ := by
        rcases hne with h0 | h0
        · rw [← hnil h0]; exact HA2.out
        · exact HA2.out.keeps ho (by omega)
      have h3 : Below w.heap.size w wr := by
        have h1 := HB.out.trans (HB1.out.mono HB.out.size)
        have h2 := h1.trans (HE.out.mono h1.size)
        rcases hne with h0 | h0
        · rw [← hnil h0]; exact h2
        · exact Below.thenOnly h2 ho (by rintro i rfl; omega) h2.size
      obtain ⟨_, q1, _, _, q4⟩ := hA3.cells
      have H3 := Lib.hid h3
      clear hne hA3 ho hWr hnil h3
      go_wp2_with fail
      refine (putNil_any a _ _ _ _).mono ?_
      rintro e w4 ⟨rfl, rfl⟩
      go_wp2
      go_ret
      exact ⟨rfl, H3.out⟩

set_option maxRecDepth 100000 in
set_option maxHeartbeats 1000000 in
theorem bothNil_bytes (R : NilSpec) (w : World) (a n v : Int) (bv : Value) :
    Calls Try.prog 10 #[.pointer none, .pointer none, .agg #[.int .i64 3, .int .u64 a, .int .i64 n, .int .u64 v, bv]] w (NilEnd w) := by
  have hA := ActBox.new w ⟨3, a, n, v, bv, []⟩
  have hB : Below w.heap.size w (w.alloc (.cells (actCells ⟨3, a, n, v, bv, []⟩) 40)) := (Below.refl _ _).alloc (Nat.le_refl _) _
  have HA := Lib.hid hA
  have HB := Lib.hid hB
  clear hA hB
  have hc : (5000 < n ∧ n ≤ 67108864) ∨ n ≤ 5000 ∨ ¬ n ≤ 5000 ∧ ¬ n ≤ 67108864 := by omega
  rcases hc with ⟨h1, h2⟩ | hn2 | ⟨hn2, hn3⟩
  · go_enter Try.func10, Try.ntmps10
    go_wp2
    go_ret
    exact ⟨rfl, HB.out⟩
  all_goals
    go_enter Try.func10, Try.ntmps10
    go_wp2_with fail
    refine (R.bytes a n _).mono ?_
    rintro e w1 ⟨hE, a1, n1, c1, rfl, hown⟩
    obtain ⟨g1, a1', c1', hv, _, _, hr1⟩ := writable (xs := []) (fun i hi => by simp at hi) hown
    injection hv with hv1 hv2 hv3
    subst hv1 hv2 hv3
    obtain ⟨_, q1, q2, q3, q4⟩ := (HA.out.keeps (Only.of_below (fun _ => False) hE) id).cells
    have HE := Lib.hid hE
    have HR1 := Lib.hid hr1
    clear hown hE hr1
    go_wp2_with fail
    refine (bytesNil_any a n _).mono ?_
    rintro e w2 ⟨rfl, rfl⟩
    clear q1 q2 q3 q4
    go_wp2_with fail
    refine (sameB_any g1 0 _ _ [] [] w1 HR1.out ⟨none, 0, rfl, Nat.zero_le _, .inl rfl⟩ (fun i hi => by simp at hi) (fun i hi => by simp at hi)).mono ?_
    rintro e w' ⟨rfl, rfl⟩
    go_wp2
    go_loop [20] (fun i => i = .int .i64 0) (fun _ => 0)
    case atStart => rfl
    case round =>
      subst hrel
      go_wp2
      go_ret
      exact ⟨ret_bool (by simp), HB.out.trans (HE.out.mono HB.out.size)⟩

theorem bothNil_any (R : NilSpec) (w : World) (gx : Nat) (x : ActV) (hr : ReadsIn .u8 gx w x.b x.bs) (hbs : Bytes255 x.bs) (hl : x.bs.length ≤ 3000) :
    Calls Try.prog 10 #[.pointer none, .pointer none, .agg (actCells x)] w (NilEnd w) := by
  obtain ⟨d, a, n, v, bv, bs⟩ := x
  by_cases c : d = 0 ∨ d = 1 ∨ d = 2 ∨ d = 3 ∨ d = 4
  · rcases c with rfl | rfl | rfl | rfl | rfl
    · exact bothNil_write R w a n v bv
    · exact bothNil_read R w a n v bv
    · exact bothNil_put R w gx a n v bv bs hr hbs hl
    · exact bothNil_bytes R w a n v bv
    · exact bothNil_has R w a n v bv
  · exact bothNil_else w d a n v bv c

end Go.Proofs.Ytoghdkhlliehoaa
