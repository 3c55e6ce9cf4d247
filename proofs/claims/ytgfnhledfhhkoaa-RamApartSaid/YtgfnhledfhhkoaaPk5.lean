/- The program's memory of layer 3: Pages, where there are few. -/
import Derived.Test.YtgfnhledfhhkoaaPk4
namespace Go.Proofs.Ytgfnhledfhhkoaa
open Go.RowKit Go.Maps Go.Sort
set_option linter.unusedVariables false

/-- Block g holds those numbers, in an array of cap words. -/
def RowN (w : World) (g : Nat) (xs : List Int) (cap : Nat) : Prop :=
  ∃ cur, w.heap[g]? = some (.cells cur 26 (0, 0)) ∧ cur.size = cap ∧ xs.length ≤ cap ∧ cap ≤ maxLen ∧ ∀ i, i < xs.length → cur[i]? = some (.int .u64 (xs.getD i 0))
theorem RowN.cell {w : World} {g cap : Nat} {xs : List Int} (h : RowN w g xs cap) {i : Nat} (hi : i < xs.length) : w.cell? ⟨g, i, none⟩ = some (.int .u64 (xs.getD i 0)) := by
  obtain ⟨cur, h1, _, _, _, h2⟩ := h
  rw [cell_of_row w g i _ _ _ h1]; exact h2 i hi
theorem RowN.frozen {w : World} {g cap : Nat} {xs : List Int} (h : RowN w g xs cap) (i : Nat) : w.frozen? ⟨g, i, none⟩ = false := by
  obtain ⟨cur, h1, _⟩ := h; exact frozen_of_row w g i _ _ h1
theorem RowN.set {w : World} {g cap : Nat} {xs : List Int} (h : RowN w g xs cap) (k : Nat) (v : Int) : RowN (w.setCell ⟨g, k, none⟩ (.int .u64 v)) g (xs.set k v) cap := by
  obtain ⟨cur, h1, h2, h3, h4, h5⟩ := h
  refine ⟨_, heap_setCell_same w g k cur _ _ h1, by simpa using h2, by simpa using h3, h4, fun i hi => ?_⟩
  have hi' : i < xs.length := by simpa using hi
  by_cases e : k = i
  · subst e
    have : k < cur.size := by omega
    simp [List.getD, hi', this]
  · rw [Array.getElem?_setIfInBounds_ne (by omega), h5 i hi']
    simp [List.getD, List.getElem?_set, e]
theorem RowN.own {w : World} {g cap B : Nat} {xs : List Int} (h : RowN w g xs cap) (hB : B ≤ g) : w.ownsRow B 26 1 (.slice (some ⟨g, 0, none⟩) xs.length cap) xs.length (xs.map (Value.int .u64)) := by
  obtain ⟨cur, h1, h2, h3, h4, h5⟩ := h
  refine ⟨by simp, .inr ⟨g, cap, cur, rfl, hB, h1, h3, h4, by omega, ?_⟩⟩
  apply List.ext_getElem?
  intro i
  rw [List.getElem?_take]
  by_cases c : i < xs.length
  · rw [if_pos (by omega), Array.getElem?_toList, h5 i c]
    simp [List.getD, c]
  · rw [if_neg (by omega), List.getElem?_eq_none (by rw [List.length_map]; omega)]

theorem row_sorted {w : World} {g n cap : Nat} {cur : Array Value} {ts : List Int} (hb : w.heap[g]? = some (.cells cur 26 (0, 0))) (hc : cur.size = cap) (h1 : ts.length ≤ cap) (h2 : cap ≤ maxLen) :
    RowN (putRow (Value.int .u64) (Sort.ahead w n) g 0 ts.toArray) g ts cap := by
  refine ⟨putCells (Value.int .u64) 0 ts.toArray cur, by simp [putRow, mapBlock, Sort.ahead, Array.getElem?_modify, hb, onCells], by simp [putCells, hc], h1, h2, fun i hi => ?_⟩
  have : i < cur.size := by omega
  simp [putCells, hi, this, List.getD]

/-- What Sorted leaves. -/
def SortedEnd (w : World) (D : DataW Unit) (e : Ending) (w' : World) : Prop :=
  Below w.heap.size w w' ∧ ∃ ss, AllU D ss ∧ ((ss = [] ∧ e = .returned (.slice none 0 0)) ∨ ∃ g cap, e = .returned (.slice (some ⟨g, 0, none⟩) ss.length cap) ∧ w.heap.size ≤ g ∧ RowN w' g (sortedOf ss) cap)

theorem allU_few {w : World} {mb nn : Nat} {D : DataW Unit} (hown : w.ownsMap Try.prog 26 ptrElem mb nn D) {N : Nat} {lo : Int} (hN : ∀ q, Maps.has D (.int .u64 q) = true → lo ≤ q ∧ q < lo + N) {ss : List Int} (h : AllU D ss) : ss.length ≤ N :=
  nodup_le N lo ss h.1 fun x hx => hN x ((h.2 x).1 hx)

set_option maxHeartbeats 1000000 in
theorem sorted_few (Bm mb nn : Nat) (D : DataW Unit) (w : World) (hBm : Bm < w.heap.size) (hm : w.cell? ⟨Bm, 0, none⟩ = some (.map (some mb))) (hown : w.ownsMap Try.prog 26 ptrElem mb nn D) (hs : Maps.size D ≤ 1000000) (lo : Int) (hN : ∀ q, Maps.has D (.int .u64 q) = true → lo ≤ q ∧ q < lo + (12 : Nat)) :
    Calls Try.prog 34 #[.func (.func 50) #[] #[.pointer (some ⟨Bm, 0, none⟩)]] w (SortedEnd w D) := by
  have HN := Lib.hid hN
  have HW := Lib.hid hown
  have HM := Lib.hid hm
  clear hN hown hm
  go_enter Try.func34, Try.ntmps34
  go_wp2_with fail
  refine (collect_keys Bm mb nn D _ hBm HM.out HW.out hs).mono ?_
  rintro e W ⟨v, ss, rfl, hS, hrow, hnil, hb⟩
  have hl := allU_few HW.out HN.out hS
  have HB := Lib.hid hb
  have HS := Lib.hid hS
  rcases hrow.2 with ⟨rfl, hz⟩ | ⟨g, cap, cur, rfl, hbase, hgb, r1, r2, r3, r4⟩
  · have hss : ss = [] := List.eq_nil_of_length_eq_zero hz
    subst hss
    clear hrow hnil hb hS
    go_wp2_with fail
    refine (sort_none none 0 W).mono ?_
    rintro e w' hE
    obtain ⟨rfl, rfl⟩ := hE
    go_wp2
    go_ret
    exact ⟨HB.out, [], HS.out, .inl ⟨rfl, rfl⟩⟩
  · have hH : Holds (Value.int .u64) W g 0 ss.toArray := by
      intro j hj
      have hj' : j < ss.length := by simpa using hj
      refine ⟨?_, by simp [World.frozen?, hgb]⟩
      have h1 : (cur.toList.take (ss.length * 1))[j]? = (ss.map (Value.int .u64))[j]? := by rw [r4]
      rw [List.getElem?_take, if_pos (by omega), Array.getElem?_toList] at h1
      rw [Nat.zero_add, cell_of_row W g j _ _ _ hgb, h1]
      simp [hj']
    have hcall := sort_few g 0 cap ss.toArray W hH (by simpa using hl)
    have HROW : ∀ n, Hid (RowN (putRow (Value.int .u64) (Sort.ahead W n) g 0 (Sort.insertionSort ltInt ss.toArray 0 ss.toArray.size)) g (sortedOf ss) cap) := fun n => by
      have hs := (sortedOf_is HS.out.1).1
      have := row_sorted (n := n) (ts := sortedOf ss) hgb (by omega) (by omega) r2
      refine Lib.hid ?_
      simpa [sortedOf] using this
    have HBL : ∀ n, Hid (Below w.heap.size w (putRow (Value.int .u64) (Sort.ahead W n) g 0 (Sort.insertionSort ltInt ss.toArray 0 ss.toArray.size))) := fun n => by
      refine Lib.hid (HB.out.trans ⟨rfl, rfl, rfl, by simp, fun k hk => ?_⟩)
      have : g ≠ k := by omega
      simp [putRow, mapBlock, Sort.ahead, Array.getElem?_modify, this]
    clear hrow hnil hb hS hH
    rw [show ss.toArray.size = ss.length by simp] at hcall
    rw [show ss.toArray.size = ss.length by simp] at HROW HBL
    go_wp2_with fail
    refine hcall.mono ?_
    rintro e w' hE
    obtain ⟨rfl, n, rfl⟩ := hE
    have H1 := HROW n
    have H2 := HBL n
    clear HROW HBL hcall
    generalize putRow (Value.int .u64) (Sort.ahead W n) g 0 (Sort.insertionSort ltInt ss.toArray 0 ss.length) = w9 at *
    go_wp2
    go_ret
    exact ⟨H2.out, ss, HS.out, .inr ⟨g, cap, rfl, hbase, H1.out⟩⟩

theorem size_1000000 {w : World} {b mb : Nat} {S : Nat → Prop} {base size : Int} {m : Int → Int} {pg : Int → Option Nat} (hp : Parts w b mb S base size m pg) (hf : Fits base size) :
    ∃ n D, w.ownsMap Try.prog 26 ptrElem mb n D ∧ Maps.size D ≤ 1000000 ∧ (∀ q, D.atKey (.int .u64 q) (encP none) = encP (pg q)) ∧ ∀ kl, Maps.has D kl = true → ∃ q, In64 q ∧ kl = .int .u64 q ∧ pg q ≠ none := by
  obtain ⟨n, D, h1, h2, h3, h4, h5⟩ := hp.ok.map.size_le Try.underlying26 (pages_16384 hp hf)
  exact ⟨n, D, h3, by omega, h4, h5⟩

/-- The numbers of the map are those of the pages that are not all 0. -/
theorem has_page {w : World} {b mb : Nat} {S : Nat → Prop} {base size : Int} {m : Int → Int} {pg : Int → Option Nat} (hp : Parts w b mb S base size m pg) {D : DataW Unit} (h2 : ∀ q, D.atKey (.int .u64 q) (encP none) = encP (pg q))
    (h3 : ∀ kl, Maps.has D kl = true → ∃ q, In64 q ∧ kl = .int .u64 q ∧ pg q ≠ none) (q : Int) : Maps.has D (.int .u64 q) = true ↔ ∃ y, ¬ m y = 0 ∧ y / 4096 = q := by
  constructor
  · intro h
    obtain ⟨q', _, e, hne⟩ := h3 _ h
    injection e with _ e
    subst e
    cases e2 : pg q with
    | none => exact absurd e2 hne
    | some g =>
      obtain ⟨_, _, _, _, i, hi, hy⟩ := hp.ok.page q g e2
      exact ⟨_, hy, by omega⟩
  · rintro ⟨y, hy, rfl⟩
    cases e : Maps.has D (.int .u64 (y / 4096)) with
    | true => rfl
    | false =>
      have := Maps.atKey_of_not_has (H := Unit) (D := D) e (encP none)
      rw [h2] at this
      have h0 := hp.ok.gone _ (encP_inj this) (y % 4096).toNat (by omega)
      rw [show y / 4096 * 4096 + ((y % 4096).toNat : Int) = y by omega] at h0
      exact absurd h0 hy

/-- The first k of them are multiplied. -/
def mulTo (ys : List Int) (k : Nat) : List Int := (List.range ys.length).map fun i => if i < k then ys.getD i 0 * 4096 else ys.getD i 0
theorem mulTo_len (ys : List Int) (k : Nat) : (mulTo ys k).length = ys.length := by unfold mulTo; simp
theorem mulTo_get (ys : List Int) (k i : Nat) (h : i < ys.length) : (mulTo ys k).getD i 0 = if i < k then ys.getD i 0 * 4096 else ys.getD i 0 := by
  unfold mulTo; simp [List.getD, h]
theorem list_ext {xs ys : List Int} (h : xs.length = ys.length) (e : ∀ i, i < xs.length → xs.getD i 0 = ys.getD i 0) : xs = ys := by
  apply List.ext_getElem h
  intro i h1 h2
  have := e i h1
  simpa [List.getD, h1, h2] using this
theorem mulTo_zero (ys : List Int) : mulTo ys 0 = ys := list_ext (mulTo_len ys 0) fun i hi => by
  rw [mulTo_len] at hi
  rw [mulTo_get ys 0 i hi, if_neg (by omega)]
theorem mulTo_set (ys : List Int) (k : Nat) (h : k < ys.length) : (mulTo ys k).set k (ys.getD k 0 * 4096) = mulTo ys (k + 1) := list_ext (by simp [mulTo_len]) fun i hi => by
  have hi' : i < ys.length := by simpa [mulTo_len] using hi
  rw [mulTo_get ys (k + 1) i hi']
  by_cases e : k = i
  · subst e
    rw [if_pos (by omega)]
    simp [List.getD, mulTo_len, h]
  · have : ((mulTo ys k).set k (ys.getD k 0 * 4096)).getD i 0 = (mulTo ys k).getD i 0 := by simp [List.getD, List.getElem?_set, e]
    rw [this, mulTo_get ys k i hi']
    by_cases c : i < k
    · rw [if_pos c, if_pos (by omega)]
    · rw [if_neg c, if_neg (by omega)]
theorem mulTo_all (ys : List Int) : mulTo ys ys.length = ys.map (· * 4096) := list_ext (by simp [mulTo_len]) fun i hi => by
  rw [mulTo_len] at hi
  rw [mulTo_get ys _ i hi, if_pos hi]
  simp [List.getD, hi]

/-- What Pages tells, out of the sorted numbers. -/
theorem pages_told {D : DataW Unit} {m : Int → Int} {ss : List Int} (hS : AllU D ss) (hh : ∀ q, Maps.has D (.int .u64 q) = true ↔ ∃ y, ¬ m y = 0 ∧ y / 4096 = q) :
    Rises ((sortedOf ss).map (· * 4096)) ∧ ∀ p, p ∈ (sortedOf ss).map (· * 4096) ↔ ∃ y, ¬ m y = 0 ∧ pageOf y = p := by
  obtain ⟨_, h2, h3⟩ := sortedOf_is hS.1
  refine ⟨?_, fun p => ?_⟩
  · unfold Rises at *
    rw [List.pairwise_map]
    exact h3.imp fun h => by omega
  · rw [List.mem_map]
    constructor
    · rintro ⟨q, hq, rfl⟩
      obtain ⟨y, hy, e⟩ := (hh q).1 ((hS.2 q).1 ((h2 q).1 hq))
      exact ⟨y, hy, by unfold pageOf; rw [e]⟩
    · rintro ⟨y, hy, rfl⟩
      exact ⟨y / 4096, (h2 _).2 ((hS.2 _).2 ((hh _).2 ⟨y, hy, rfl⟩)), rfl⟩

set_option maxHeartbeats 1000000 in
theorem progPages_few {w : World} {b : Nat} {S : Nat → Prop} {base size : Int} {m : Int → Int} (h : ProgMem w b S base size m) (hf : Fits base size) (hs : size ≤ 49152) :
    Calls Try.prog 14 #[.pointer (some ⟨b, 0, none⟩)] w (PagesEnd w m) := by
  obtain ⟨mb, pg, hp⟩ := h.parts
  obtain ⟨c0, c1, c2⟩ := ram_cells hp.row
  obtain ⟨n, D, hown, hsz, h2, h3⟩ := size_1000000 hp hf
  have hN : ∀ q, Maps.has D (.int .u64 q) = true → base / 4096 ≤ q ∧ q < base / 4096 + (12 : Nat) := fun q hq => by
    obtain ⟨y, hy, rfl⟩ := (has_page hp h2 h3 q).1 hq
    have := hp.sup y hy
    have := hp.al1
    omega
  have HU : Hid (∀ q, Maps.has D (.int .u64 q) = true → 0 ≤ q ∧ q * 4096 ≤ 9223372036854775807) := Lib.hid fun q hq => by
    obtain ⟨y, hy, rfl⟩ := (has_page hp h2 h3 q).1 hq
    have := hp.sup y hy
    unfold Fits at hf
    omega
  have HH := Lib.hid (has_page hp h2 h3)
  have hb1 : Below w.heap.size w (w.alloc (.cells #[.map (some mb)] 62)) := (Below.refl _ _).alloc (Nat.le_refl _) _
  have hm1 : (w.alloc (.cells #[.map (some mb)] 62)).cell? ⟨w.heap.size, 0, none⟩ = some (.map (some mb)) := by
    rw [cell_of_row _ _ 0 _ _ _ (heap_alloc_new w _)]; rfl
  have hown1 : (w.alloc (.cells #[.map (some mb)] 62)).ownsMap Try.prog 26 ptrElem mb n D := hown.alloc _
  have hcall := sorted_few w.heap.size mb n D (w.alloc (.cells #[.map (some mb)] 62)) (by simp) hm1 hown1 hsz _ hN
  have HB1 := Lib.hid hb1
  have HCALL := Lib.hid hcall
  clear hcall hown1 hm1 hb1 hN h2 h3 hown hsz hp h hf
  go_enter Try.func14, Try.ntmps14
  go_wp2_with (go_at_call 35; refine (keys_any _ _).mono ?_; rintro e w' ⟨rfl, rfl⟩)
  refine HCALL.out.mono ?_
  rintro e w1 ⟨hb, ss, hS, hor⟩
  have HB := Lib.hid (HB1.out.trans (hb.mono (by simp)))
  have HS := Lib.hid hS
  have hge : w.heap.size ≤ (w.alloc (.cells #[.map (some mb)] 62)).heap.size := by simp
  clear hb hS HCALL c0 c1 c2
  rcases hor with ⟨rfl, rfl⟩ | ⟨g, cap, rfl, hg, hrow⟩
  · go_wp2
    refine wp_loop_rounds 1 ?_
    rw [rounds_succ]
    go_wp2
    go_ret
    refine ⟨HB.out, none, 0, 0, [], rfl, World.ownsRow_nil _ _ _ _, List.Pairwise.nil, fun p => ⟨fun h => by simp at h, ?_⟩⟩
    rintro ⟨y, hy, rfl⟩
    have := (HS.out.2 (y / 4096)).2 ((HH.out _).2 ⟨y, hy, rfl⟩)
    simp at this
  · have hlen := (sortedOf_is HS.out.1).1
    have HTOLD := Lib.hid (pages_told HS.out HH.out)
    have HQ : Hid (∀ i, i < ss.length → 0 ≤ (sortedOf ss).getD i 0 ∧ (sortedOf ss).getD i 0 * 4096 ≤ 9223372036854775807) := Lib.hid fun i hi => by
      refine HU.out _ ((HS.out.2 _).1 (((sortedOf_is HS.out.1).2.1 _).1 ?_))
      have : i < (sortedOf ss).length := by omega
      simp [List.getD, this]
    have hml : ss.length ≤ maxLen := by
      obtain ⟨_, _, _, h3, h4, _⟩ := hrow
      omega
    unfold maxLen at hml
    generalize hys : sortedOf ss = ys at *
    have HL := Lib.hid hlen
    have HY := Lib.hid hys
    have hg2 : w.heap.size ≤ g := Nat.le_trans hge hg
    have HROW : Hid (RowN w1 g (mulTo ys 0) cap) := by rw [mulTo_zero]; exact Lib.hid hrow
    clear hlen hys hrow hg hge HU HH HB1
    go_wp2
    go_loopw [15] (fun i wr => ∃ k : Nat, k ≤ ss.length ∧ i = .int .i64 k ∧ RowN wr g (mulTo ys k) cap ∧ Below w.heap.size w wr) (fun i _ => ss.length - (intOf i).toNat)
    case atStart => exact ⟨0, Nat.zero_le _, rfl, HROW.out, HB.out⟩
    case round =>
      obtain ⟨k, hk, rfl, hr, hb⟩ := hrel
      by_cases hlt : k < ss.length
      · have hky : k < ys.length := by rw [HL.out]; exact hlt
        have hc := hr.cell (i := k) (by rw [mulTo_len]; exact hky)
        rw [mulTo_get ys k k hky, if_neg (by omega)] at hc
        have hf := hr.frozen k
        have hq := HQ.out k hlt
        have HNEXT : Hid (RowN (wr.setCell ⟨g, k, none⟩ (.int .u64 (ys.getD k 0 * 4096))) g (mulTo ys (k + 1)) cap) := by
          have := hr.set k (ys.getD k 0 * 4096)
          rw [mulTo_set ys k hky] at this
          exact Lib.hid this
        have HBB := Lib.hid (hb.setCell (p := ⟨g, k, none⟩) hg2 (.int .u64 (ys.getD k 0 * 4096)))
        generalize ys.getD k 0 = y at *
        have hq1 := hq.1
        have hq2 : y * 4096 ≤ 18446744073709551615 := by omega
        have hq3 : 0 ≤ y * 4096 := by omega
        clear hr hb hky hq
        go_wp2
        go_roundw
        case rel => exact ⟨k + 1, by omega, by go_num, HNEXT.out, HBB.out⟩
        case measure => simp [intOf]; omega
      · obtain rfl : k = ss.length := by omega
        have HB2 := Lib.hid hb
        have HR2 := Lib.hid hr
        clear hb hr
        go_wp2
        go_ret
        have e1 : mulTo ys ss.length = ys.map (· * 4096) := by rw [← HL.out]; exact mulTo_all ys
        have hown := HR2.out.own hg2
        rw [mulTo_len, HL.out, e1] at hown
        exact ⟨HB2.out, _, _, _, ys.map (· * 4096), rfl, by rw [List.length_map, HL.out]; exact hown, HTOLD.out.1, HTOLD.out.2⟩

end Go.Proofs.Ytgfnhledfhhkoaa
