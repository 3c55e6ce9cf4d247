/- The program's memory of layer 3: Pages, of any number of pages. Written by wip/tools/gen_pk6.py. -/
import Derived.Test.YtoghdkhlliehoaaJC
import Derived.Test.YtoghdkhlliehoaaJD
namespace Go.Proofs.Ytoghdkhlliehoaa
open Go.RowKit Go.Maps Go.Sort
set_option linter.unusedVariables false
set_option maxRecDepth 100000

theorem below_put {B : Nat} (W : World) (g : Nat) (d : Array Int) (h : B ≤ g) : Below B W (putRow (Value.int .u64) W g 0 d) :=
  ⟨rfl, rfl, rfl, by rw [size_putRow]; exact Nat.le_refl _, fun k hk => by
    have : g ≠ k := by omega
    simp [putRow, mapBlock, Array.getElem?_modify, this]⟩

set_option maxHeartbeats 1000000 in
theorem sorted_any (Bm mb nn : Nat) (D : DataW Unit) (w : World) (hBm : Bm < w.heap.size) (hm : w.cell? ⟨Bm, 0, none⟩ = some (.map (some mb))) (hown : w.ownsMap Try.prog 22 ptrElem mb nn D) (hs : Maps.size D ≤ 1000000) (lo : Int) (hN : ∀ q, Maps.has D (.int .u64 q) = true → lo ≤ q ∧ q < lo + (16384 : Nat)) :
    Calls Try.prog 28 #[.func (.func 40) #[] #[.pointer (some ⟨Bm, 0, none⟩)]] w (SortedEnd w D) := by
  have HN := Lib.hid hN
  have HW := Lib.hid hown
  have HM := Lib.hid hm
  clear hN hown hm
  go_enter Try.func28, Try.ntmps28
  go_wp2_with fail
  refine (collect_keys Bm mb nn D _ hBm HM.out HW.out hs).mono ?_
  rintro e W ⟨v, ss, rfl, hS, hrow, hnil, hb⟩
  have hl := allU_few HW.out HN.out hS
  have HB := Lib.hid hb
  have HS := Lib.hid hS
  rcases hrow.2 with ⟨rfl, hz⟩ | ⟨g, cap, cur, rfl, hbase, hgb, r1, r2, r3, r4⟩
  · have hss : ss = [] := List.eq_nil_of_length_eq_zero hz
    subst hss
    clear hrow hnil hb hS
    go_wp2_with fail
    refine (sort_none none 0 W).mono ?_
    rintro e w' hE
    obtain ⟨rfl, rfl⟩ := hE
    go_wp2
    go_ret
    exact ⟨HB.out, [], HS.out, .inl ⟨rfl, rfl⟩⟩
  · have hH : Holds (Value.int .u64) W g 0 ss.toArray := by
      intro j hj
      have hj' : j < ss.length := by simpa using hj
      refine ⟨?_, by simp [World.frozen?, hgb]⟩
      have h1 : (cur.toList.take (ss.length * 1))[j]? = (ss.map (Value.int .u64))[j]? := by rw [r4]
      rw [List.getElem?_take, if_pos (by omega), Array.getElem?_toList] at h1
      rw [Nat.zero_add, cell_of_row W g j _ _ _ hgb, h1]
      simp [hj']
    have hkb : g < W.heap.size := Nat.lt_of_not_le fun h => by rw [Array.getElem?_eq_none h] at hgb; exact absurd hgb (by simp)
    have hcall := sort_any g 0 cap ss.toArray W hH (by simp; omega) hkb
    have HROW : ∀ w', RowIs W g 0 ss.toArray.size w' (Sort.insertionSort ltInt ss.toArray 0 ss.toArray.size) → RowN w' g (sortedOf ss) cap ∧ Below w.heap.size w w' := fun w' hR => by
      have hs := (sortedOf_is HS.out.1).1
      have h0 := row_sorted (n := 0) (ts := sortedOf ss) hgb (by omega) (by omega) r2
      have h1 : RowN (putRow (Value.int .u64) W g 0 (Sort.insertionSort ltInt ss.toArray 0 ss.toArray.size)) g (sortedOf ss) cap := by
        rw [Sort.ahead_zero] at h0
        simpa [sortedOf] using h0
      refine ⟨?_, HB.out.trans ((below_put W g _ hbase).trans (hR.2.2.mono HB.out.size))⟩
      obtain ⟨cur', q1, q2, q3, q4, q5⟩ := h1
      exact ⟨cur', by rw [hR.2.2.block g hkb]; exact q1, q2, q3, q4, q5⟩
    have HROW := Lib.hid HROW
    clear hrow hnil hb hS hH
    rw [show ss.toArray.size = ss.length by simp] at hcall HROW
    clear hkb
    go_wp2_with fail
    refine hcall.mono ?_
    rintro e w' hE
    obtain ⟨rfl, hR⟩ := hE
    have H1 := Lib.hid (HROW.out w' hR).1
    have H2 := Lib.hid (HROW.out w' hR).2
    clear HROW hcall hR
    go_wp2
    go_ret
    exact ⟨H2.out, ss, HS.out, .inr ⟨g, cap, rfl, hbase, H1.out⟩⟩

set_option maxHeartbeats 1000000 in
theorem progPages_any {w : World} {b : Nat} {S : Nat → Prop} {base size : Int} {m : Int → Int} (h : ProgMem w b S base size m) (hf : Fits base size) :
    Calls Try.prog 13 #[.pointer (some ⟨b, 0, none⟩)] w (PagesEnd w m) := by
  obtain ⟨mb, pg, hp⟩ := h.parts
  obtain ⟨c0, c1, c2⟩ := ram_cells hp.row
  obtain ⟨n, D, hown, hsz, h2, h3⟩ := size_1000000 hp hf
  have hN : ∀ q, Maps.has D (.int .u64 q) = true → base / 4096 ≤ q ∧ q < base / 4096 + (16384 : Nat) := fun q hq => by
    obtain ⟨y, hy, rfl⟩ := (has_page hp h2 h3 q).1 hq
    have := hp.sup y hy
    have := hp.al1
    have := hp.al2
    unfold Fits at hf
    omega
  have HU : Hid (∀ q, Maps.has D (.int .u64 q) = true → 0 ≤ q ∧ q * 4096 ≤ 9223372036854775807) := Lib.hid fun q hq => by
    obtain ⟨y, hy, rfl⟩ := (has_page hp h2 h3 q).1 hq
    have := hp.sup y hy
    unfold Fits at hf
    omega
  have HH := Lib.hid (has_page hp h2 h3)
  have hb1 : Below w.heap.size w (w.alloc (.cells #[.map (some mb)] 51)) := (Below.refl _ _).alloc (Nat.le_refl _) _
  have hm1 : (w.alloc (.cells #[.map (some mb)] 51)).cell? ⟨w.heap.size, 0, none⟩ = some (.map (some mb)) := by
    rw [cell_of_row _ _ 0 _ _ _ (heap_alloc_new w _)]; rfl
  have hown1 : (w.alloc (.cells #[.map (some mb)] 51)).ownsMap Try.prog 22 ptrElem mb n D := hown.alloc _
  have hcall := sorted_any w.heap.size mb n D (w.alloc (.cells #[.map (some mb)] 51)) (by simp) hm1 hown1 hsz _ hN
  have HB1 := Lib.hid hb1
  have HCALL := Lib.hid hcall
  clear hcall hown1 hm1 hb1 hN h2 h3 hown hsz hp h hf
  go_enter Try.func13, Try.ntmps13
  go_wp2_with (go_at_call 29; refine (keys_any _ _).mono ?_; rintro e w' ⟨rfl, rfl⟩)
  refine HCALL.out.mono ?_
  rintro e w1 ⟨hb, ss, hS, hor⟩
  have HB := Lib.hid (HB1.out.trans (hb.mono (by simp)))
  have HS := Lib.hid hS
  have hge : w.heap.size ≤ (w.alloc (.cells #[.map (some mb)] 51)).heap.size := by simp
  clear hb hS HCALL c0 c1 c2
  rcases hor with ⟨rfl, rfl⟩ | ⟨g, cap, rfl, hg, hrow⟩
  · go_wp2
    refine wp_loop_rounds 1 ?_
    rw [rounds_succ]
    go_wp2
    go_ret
    refine ⟨HB.out, none, 0, 0, [], rfl, World.ownsRow_nil _ _ _ _, List.Pairwise.nil, fun p => ⟨fun h => by simp at h, ?_⟩⟩
    rintro ⟨y, hy, rfl⟩
    have := (HS.out.2 (y / 4096)).2 ((HH.out _).2 ⟨y, hy, rfl⟩)
    simp at this
  · have hlen := (sortedOf_is HS.out.1).1
    have HTOLD := Lib.hid (pages_told HS.out HH.out)
    have HQ : Hid (∀ i, i < ss.length → 0 ≤ (sortedOf ss).getD i 0 ∧ (sortedOf ss).getD i 0 * 4096 ≤ 9223372036854775807) := Lib.hid fun i hi => by
      refine HU.out _ ((HS.out.2 _).1 (((sortedOf_is HS.out.1).2.1 _).1 ?_))
      have : i < (sortedOf ss).length := by omega
      simp [List.getD, this]
    have hml : ss.length ≤ maxLen := by
      obtain ⟨_, _, _, h3, h4, _⟩ := hrow
      omega
    unfold maxLen at hml
    generalize hys : sortedOf ss = ys at *
    have HL := Lib.hid hlen
    have HY := Lib.hid hys
    have hg2 : w.heap.size ≤ g := Nat.le_trans hge hg
    have HROW : Hid (RowN w1 g (mulTo ys 0) cap) := by rw [mulTo_zero]; exact Lib.hid hrow
    clear hlen hys hrow hg hge HU HH HB1
    go_wp2
    go_loopw [15] (fun i wr => ∃ k : Nat, k ≤ ss.length ∧ i = .int .i64 k ∧ RowN wr g (mulTo ys k) cap ∧ Below w.heap.size w wr) (fun i _ => ss.length - (intOf i).toNat)
    case atStart => exact ⟨0, Nat.zero_le _, rfl, HROW.out, HB.out⟩
    case round =>
      obtain ⟨k, hk, rfl, hr, hb⟩ := hrel
      by_cases hlt : k < ss.length
      · have hky : k < ys.length := by rw [HL.out]; exact hlt
        have hc := hr.cell (i := k) (by rw [mulTo_len]; exact hky)
        rw [mulTo_get ys k k hky, if_neg (by omega)] at hc
        have hf := hr.frozen k
        have hq := HQ.out k hlt
        have HNEXT : Hid (RowN (wr.setCell ⟨g, k, none⟩ (.int .u64 (ys.getD k 0 * 4096))) g (mulTo ys (k + 1)) cap) := by
          have := hr.set k (ys.getD k 0 * 4096)
          rw [mulTo_set ys k hky] at this
          exact Lib.hid this
        have HBB := Lib.hid (hb.setCell (p := ⟨g, k, none⟩) hg2 (.int .u64 (ys.getD k 0 * 4096)))
        generalize ys.getD k 0 = y at *
        have hq1 := hq.1
        have hq2 : y * 4096 ≤ 18446744073709551615 := by omega
        have hq3 : 0 ≤ y * 4096 := by omega
        clear hr hb hky hq
        go_wp2
        go_roundw
        case rel => exact ⟨k + 1, by omega, by go_num, HNEXT.out, HBB.out⟩
        case measure => simp [intOf]; omega
      · obtain rfl : k = ss.length := by omega
        have HB2 := Lib.hid hb
        have HR2 := Lib.hid hr
        clear hb hr
        go_wp2
        go_ret
        have e1 : mulTo ys ss.length = ys.map (· * 4096) := by rw [← HL.out]; exact mulTo_all ys
        have hown := HR2.out.own hg2
        rw [mulTo_len, HL.out, e1] at hown
        exact ⟨HB2.out, _, _, _, ys.map (· * 4096), rfl, by rw [List.length_map, HL.out]; exact hown, HTOLD.out.1, HTOLD.out.2⟩

end Go.Proofs.Ytoghdkhlliehoaa
