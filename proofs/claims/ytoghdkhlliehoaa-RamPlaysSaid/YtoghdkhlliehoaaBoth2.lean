/- Layer 3's laws: bytes put by both. -/
import Derived.Test.YtoghdkhlliehoaaBoth
namespace Go.Proofs.Ytoghdkhlliehoaa
open Go.RowKit
set_option linter.unusedVariables false
set_option maxRecDepth 100000

theorem ReadsIn.toL {k : IntKind} {g : Nat} {w : World} {v : Value} {xs : List Int} (h : ReadsIn k g w v xs) : ReadsL k w.heap.size w v xs := by
  obtain ⟨a, c, hv, hm, h⟩ := h
  refine ⟨a, c, hv, hm, ?_⟩
  rcases h with h | ⟨off, ha, hlt, hc⟩
  · exact .inl h
  · exact .inr ⟨g, off, ha, hlt, hc⟩

/-- A row of bytes of one's own that may be written. -/
def Writable (w : World) (g n : Nat) : Prop := n = 0 ∨ ∃ cur, w.heap[g]? = some (.cells cur 5 (0, 0)) ∧ n ≤ cur.size ∧ ∀ j, j < n → ∃ u, cur[j]? = some (.int .u8 u) ∧ 0 ≤ u ∧ u ≤ 255
theorem writable {w : World} {B : Nat} {v : Value} {xs : List Int} (hx : Bytes255 xs) (h : w.ownsRow B 5 1 v xs.length (xs.map (Value.int .u8))) :
    ∃ g a c, v = .slice a xs.length c ∧ (xs = [] ∨ a = some ⟨g, 0, none⟩ ∧ B ≤ g ∧ g < w.heap.size) ∧ Writable w g xs.length ∧ ReadsIn .u8 g w v xs := by
  have hr := ReadsIn.own h
  rcases h.2 with ⟨hv, h0⟩ | ⟨g, cap, cur, hv, hg, hh, hn, _, hc, ht⟩
  · have : xs = [] := List.eq_nil_of_length_eq_zero h0
    subst this
    exact ⟨0, none, 0, hv, .inl rfl, .inl rfl, none, 0, hv, Nat.zero_le _, .inl rfl⟩
  · have hgl : g < w.heap.size := (Array.getElem?_eq_some_iff.1 hh).1
    have hcell : ∀ j, j < xs.length → cur[j]? = some (.int .u8 (xs.getD j 0)) := fun j hj => by
      have e : (cur.toList.take (xs.length * 1))[j]? = some (.int .u8 (xs.getD j 0)) := by rw [ht]; simp [List.getD, hj]
      rw [List.getElem?_take, if_pos (by omega)] at e
      rw [← e]; simp
    refine ⟨g, some ⟨g, 0, none⟩, cap, hv, .inr ⟨rfl, hg, hgl⟩, .inr ⟨cur, hh, by omega, fun j hj => ⟨_, hcell j hj, (hx j hj).1, (hx j hj).2⟩⟩, some ⟨g, 0, none⟩, cap, hv, by omega, .inr ⟨0, rfl, hgl, fun i hi => ?_⟩⟩
    rw [cell_of_row w g (0 + i) _ _ _ hh, Nat.zero_add]; exact hcell i hi
/-- A row of one's own has room for its elements. -/
theorem own_cap {w : World} {B n c : Nat} {a : Option Addr} {xs : List Value} (h : w.ownsRow B 5 1 (.slice a n c) n xs) : n ≤ c := by
  rcases h.2 with ⟨hv, h0⟩ | ⟨g, cap, cur, hv, hg, hh, hn, _⟩
  · omega
  · injection hv with _ _ h3; omega
theorem Writable.keeps {T : Nat → Prop} {w w' : World} {g n : Nat} (h : Writable w g n) (k : Only T w w') (hg : ¬ T g) : Writable w' g n := by
  rcases h with h | ⟨cur, hh, hn, hc⟩
  · exact .inl h
  · exact .inr ⟨cur, k.keeps hg hh, hn, hc⟩
theorem Writable.set {w : World} {g n k : Nat} (h : Writable w g n) (u : Int) (h0 : 0 ≤ u) (h1 : u ≤ 255) : Writable (w.setCell ⟨g, k, none⟩ (.int .u8 u)) g n := by
  rcases h with h | ⟨cur, hh, hn, hc⟩
  · exact .inl h
  · refine .inr ⟨_, heap_setCell_same w g k cur _ _ hh, by simpa using hn, fun j hj => ?_⟩
    by_cases e : k = j
    · subst e; exact ⟨u, by rw [Array.getElem?_setIfInBounds, if_pos rfl, if_pos (by omega)], h0, h1⟩
    · obtain ⟨v, hv, hb⟩ := hc j hj
      exact ⟨v, by rw [Array.getElem?_setIfInBounds, if_neg e]; exact hv, hb⟩

/-- The program's part of an act that puts, the copy's bytes turned behind it: told from before the copy was made. -/
theorem prog_then {R : Spec} {w0 w1 w2 w3 : World} {b : Nat} {S : Nat → Prop} {base size : Int} {m' : Int → Int} {r : Bool} {e : Ending} {g1 : Nat} (hS : ∀ i, S i → i < w0.heap.size) (h01 : Below w0.heap.size w0 w1) (hE : ProgEnd R.M w1 b S base size m' r e w2)
    (hg : w0.heap.size ≤ g1 ∧ g1 < w1.heap.size ∨ w2 = w3) (h23 : Only (fun i => i = g1) w2 w3) : ProgEnd R.M w0 b S base size m' r e w3 := by
  obtain ⟨he, ho, S', hS', hM⟩ := hE
  have s1 := h01.size
  have o2 : Only S w0 w2 := (Only.of_below S h01).trans ho
  have hS2 : ∀ i, S' i → S i ∨ w0.heap.size ≤ i := fun i hi => by
    rcases hS' i hi with h | h
    · exact .inl h
    · exact .inr (by omega)
  rcases hg with ⟨hg1, hg2⟩ | rfl
  · refine ⟨he, o2.step h23 (by rintro i rfl; exact .inr hg1), S', hS2, R.keeps hM h23 (fun i hi hh => ?_)⟩
    subst hh
    rcases hS' _ hi with h | h
    · have := hS _ h; omega
    · omega
  · exact ⟨he, o2, S', hS2, hM⟩

set_option maxRecDepth 100000 in
set_option maxHeartbeats 1000000 in
theorem both_put (R : Spec) (w : World) (b : Nat) (S : Nat → Prop) (b2 g2 gx : Nat) (base size : Int) (N : Nat) (m : Int → Int) (a n v : Int) (bv : Value) (bs : List Int) (h : Pair R w b S b2 g2 base size N m) (ia : In64 a) (hr : ReadsIn .u8 gx w bv bs) (hbs : Bytes255 bs) (hl : bs.length ≤ 3000)
    (hx : bs = [] ∨ gx ≠ b2 ∧ ¬ S gx) (hN : N < 900000) :
    Calls Try.prog 10 #[.pointer (some ⟨b, 0, none⟩), .pointer (some ⟨b2, 0, none⟩), .agg #[.int .i64 2, .int .u64 a, .int .i64 n, .int .u64 v, bv]] w (BothEnd R w b S b2 g2 base size (N + bs.length)) := by
  have hA := ActBox.new w ⟨2, a, n, v, bv, bs⟩
  have hB : Below w.heap.size w (w.alloc (.cells (actCells ⟨2, a, n, v, bv, bs⟩) 40)) := (Below.refl _ _).alloc (Nat.le_refl _) _
  have hP0 := h.same hB
  have hr0 := hr.below hB
  have hS0 : ∀ i, S i → i < (w.alloc (.cells (actCells ⟨2, a, n, v, bv, bs⟩) 40)).heap.size := fun i hi => by rw [World.size_alloc]; have := R.lt h.1 i hi; omega
  have hq : ¬ S w.heap.size := fun hs => by have := R.lt h.1 _ hs; omega
  have hsz : (w.alloc (.cells (actCells ⟨2, a, n, v, bv, bs⟩) 40)).heap.size = w.heap.size + 1 := World.size_alloc _ _
  obtain ⟨v1, w1, hrun, hown, hb1⟩ := append_copy8 _ bv bs hr0.toL hl
  obtain ⟨g1, a1, c1, rfl, hg1, hw1, hv1⟩ := writable hbs hown
  have HCAP := Lib.hid (own_cap hown)
  have hA1 := hA.keeps (Only.of_below (fun _ => False) hb1) id
  obtain ⟨_, q1, _, _, q4⟩ := hA1.cells
  have HA1 := Lib.hid hA1
  have HP1 := Lib.hid (hP0.same hb1)
  clear hA1
  simp only [actCells, World.size_alloc] at hrun
  have HRUN := Lib.hid hrun
  have HP := Lib.hid hP0
  have HA := Lib.hid hA
  have HB := Lib.hid hB
  have HS := Lib.hid hS0
  have HR := Lib.hid hr0
  have HBS := Lib.hid hbs
  have HX := Lib.hid hx
  have HG := Lib.hid hg1
  have HW := Lib.hid hw1
  have HV := Lib.hid hv1
  have HB1 := Lib.hid hb1
  have HQ := Lib.hid hq
  have HLT := Lib.hid (show b2 < w.heap.size ∧ g2 < w.heap.size from ⟨h.2.1.lt, h.2.2.2.2.1⟩)
  have HSZ := Lib.hid hsz
  have HGX := Lib.hid (show bs = [] ∨ gx < w.heap.size by obtain ⟨_, _, _, _, hz⟩ := hr; rcases hz with hz | ⟨_, _, hz, _⟩; exact .inl hz; exact .inr hz)
  have hv0 := hr
  obtain ⟨abv, cbv, hbv, _⟩ := hv0
  subst hbv
  clear h hA hB hP0 hr0 hS0 hrun hown hg1 hw1 hv1 hb1 hbs hx hq hr
  go_enter Try.func10, Try.ntmps10
  go_wp2_with (at_builtin; refine wpList_append_run rfl _ _ _ rfl _ _ (.slice a1 bs.length c1) w1 rfl rfl HRUN.out ?_)
  refine (R.put a _ bs g1 HP1.out.1 HP1.out.2.2.2.2.2 ia HV.out HBS.out (by
    rcases HG.out with h0 | h0
    · exact .inl h0
    · exact .inr (fun hs => by have := HS.out _ hs; omega)) (by omega) (fun _ _ _ hh => by injection hh with _ h1 h2; have := HCAP.out; omega)).mono ?_
  rintro e w2 hE
  have hgw : w1.heap.size ≤ w2.heap.size := hE.2.1.size
  have hA2 := HA1.out.keeps hE.2.1 HQ.out
  have hW2 : Writable w2 g1 bs.length := by
    rcases HG.out with h0 | h0
    · subst h0; exact .inl rfl
    · exact HW.out.keeps hE.2.1 (fun hs => by have := HS.out _ hs; omega)
  have HE := Lib.hid hE
  have HA2 := Lib.hid hA2
  have HW2 := Lib.hid hW2
  obtain ⟨rfl, _⟩ := hE
  clear hA2 hW2 q1 q4
  go_wp2_with fail
  go_loopw [14] (fun i wr => ∃ k : Nat, k ≤ bs.length ∧ i = .int .i64 k ∧ Only (fun i => i = g1) w2 wr ∧ Writable wr g1 bs.length ∧ (bs = [] → w2 = wr)) (fun i _ => bs.length - (intOf i).toNat)
  case atStart => exact ⟨0, Nat.zero_le _, rfl, Only.refl _ _, HW2.out, fun _ => rfl⟩
  case round =>
    obtain ⟨k, hk, rfl, ho, hWr, hnil⟩ := hrel
    by_cases hlt : k < bs.length
    · rcases HG.out with h0 | ⟨rfl, hg2, hg3⟩
      · subst h0; simp at hlt
      have HWr := Lib.hid hWr
      rcases hWr with h0 | ⟨cur, hh, hn, hc⟩
      · omega
      obtain ⟨u, hu, u0, u1⟩ := hc k hlt
      have hcell := (cell_of_row wr g1 k cur _ _ hh).trans hu
      have hfz := frozen_of_row wr g1 k cur _ hh
      have HH := Lib.hid hh
      have HO := Lib.hid ho
      clear hh hc hu ho hnil
      go_wp2
      exact ⟨⟨k + 1, by omega, by go_num, HO.out.setCell (p := ⟨g1, k, none⟩) (.inl rfl) _, HWr.out.set _ (by omega) (by omega), fun h => by subst h; simp at hlt⟩, by simp [intOf]; omega⟩
    · obtain rfl : k = bs.length := by omega
      have HE3 : ProgEnd R.M (w.alloc (.cells (actCells ⟨2, a, n, v, .slice abv bs.length cbv, bs⟩) 40)) b S base size (putM base size m a bs) (hasZ base size a bs.length) (.returned (.bool (hasZ base size a bs.length))) wr := by
        refine prog_then HS.out HB1.out HE.out ?_ ho
        rcases HG.out with h0 | ⟨_, h1, h2⟩
        · exact .inr (hnil h0)
        · exact .inl ⟨by have := HSZ.out; omega, h2⟩
      have hne : bs = [] ∨ (w.heap.size < g1) := by
        rcases HG.out with h0 | ⟨_, h1, _⟩
        · exact .inl h0
        · exact .inr (by have := HSZ.out; omega)
      have hA3 : ActBox wr w.heap.size ⟨2, a, n, v, .slice abv bs.length cbv, bs⟩ := by
        rcases hne with h0 | h0
        · rw [← hnil h0]; exact HA2.out
        · exact HA2.out.keeps ho (by omega)
      have hR3 : RefMem wr b2 g2 base size N m := by
        have h2 := HP1.out.2.1.keeps HE.out.2.1 HP1.out.2.2.1 HP1.out.2.2.2.1
        have hlt2 := HLT.out
        rcases hne with h0 | h0
        · rw [← hnil h0]; exact h2
        · exact h2.keeps ho (by omega) (by omega)
      have hV3 : ReadsIn .u8 gx wr (.slice abv bs.length cbv) bs := by
        by_cases h00 : bs = []
        · subst h00; exact ⟨abv, cbv, rfl, Nat.zero_le _, .inl rfl⟩
        · have hgx := (HX.out.resolve_left h00).2
          have h2 := (HR.out.below HB1.out).keeps HE.out.2.1 hgx
          have h3 := HGX.out.resolve_left h00
          have h4 := hne.resolve_left h00
          exact h2.keeps ho (by omega)
      obtain ⟨_, q1, _, _, q4⟩ := hA3.cells
      have H3 := Lib.hid HE3
      have HR3 := Lib.hid hR3
      have HV3 := Lib.hid hV3
      clear HE3 hne hA3 hR3 hV3 ho hWr hnil
      go_wp2_with fail
      refine (mem_put _ b2 g2 gx base size N m a _ bs HR3.out HP1.out.2.2.2.2.2 ia HV3.out HBS.out (by
        rcases HX.out with h0 | h0
        · exact .inl h0
        · exact .inr h0.1) (by omega) hN).mono ?_
      rintro e w4 hE4
      have HE4 := Lib.hid (Pair.both HP.out H3.out (fun g hg => by subst hg; exact hE4))
      obtain ⟨rfl, _⟩ := hE4
      clear q1 q4
      generalize hasZ base size a bs.length = r at *
      go_wp2
      go_ret
      exact ⟨rfl, _, HE4.out.before HB.out⟩

end Go.Proofs.Ytoghdkhlliehoaa
