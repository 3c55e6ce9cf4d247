/- The document's memory of layer 3: twins. -/
import Derived.Test.YtgfnhledfhhkoaaR3g
namespace Go.Proofs.Ytgfnhledfhhkoaa
open Go.RowKit
set_option linter.unusedVariables false

theorem refTwin_nil (w : World) : Calls Try.prog 24 #[.pointer none] w fun e w' => e = .returned (.pointer none) ∧ w = w' := by
  go_enter Try.func24, Try.ntmps24
  go_wp2
  go_ret
  exact ⟨rfl, rfl⟩

theorem cellsOf_one (l : List (Int × Int)) : ∀ u ∈ cellsOf l, u.oneCell' = true := by
  intro u hu
  unfold cellsOf at hu
  obtain ⟨c, _, hc⟩ := List.mem_flatMap.1 hu
  simp at hc
  rcases hc with rfl | rfl <;> rfl

/-- An append whose run is known, at a step of a region that draws. -/
theorem step_append_run {P : Program} {w : World} {ops : Array Oper} {o : Oper} {a : Act} {K : Act → World → Prop} {Q : Exit → Act → World → Prop} {E : Prop} (hgd : o.guard = none) (s x : Operand) (t : TypeId)
    (ho : o.op = .call { callee := .builtin .append, args := #[s, x], argTypes := #[t, t] }) (v v2 v' : Value) (w' : World) (hs : a.eval s = v) (hx : a.eval x = v2)
    (hr : (Builtin.append_ #[t, t] o.type #[v, v2]).run P w = .ok v' w') (h : K (a.put o.dst v') w') :
    if Region.wanted o (yielded ops a.tmps) = true then Oper.wp P o a w K Q else E := by
  have hw : Region.wanted o (yielded ops a.tmps) = true := by simp [Region.wanted, hgd]
  rw [if_pos hw]
  exact wp_append_run s x t ho v v2 v' w' hs hx hr h

/-- What Twin answers. -/
def TwinEnd (w : World) (base size : Int) (N : Nat) (m : Int → Int) (e : Ending) (w' : World) : Prop :=
  Below w.heap.size w w' ∧ ∃ b g, e = .returned (.pointer (some ⟨b, 0, none⟩)) ∧ w.heap.size ≤ b ∧ w.heap.size ≤ g ∧ RefMem w' b g base size N m

theorem twin_end {w w3 w4 : World} {base size : Int} {N : Nat} {m : Int → Int} {l : List (Int × Int)} {s : Value} {sn : Option Addr} {cc : Nat} (hB3 : Below w.heap.size w w3) (hz3 : w3.heap.size = w.heap.size + 1)
    (HT : w3.heap[w.heap.size]? = some (.cells #[.int .u64 base, .int .u64 size, .slice none 0 0] 49 (0, 0))) (hgrow : w3.drew.grownBy w4 none)
    (hs : s = .slice sn l.length cc) (hown : w4.ownsRow (w.heap.size + 1) 78 2 s l.length (cellsOf l)) (hm : l.length ≤ 1000000) (hN : l.length ≤ N) (hf : Fine l) (hl : ∀ y, look l y = m y) :
    Below w.heap.size w (w4.setCell ⟨w.heap.size, 2, none⟩ s) ∧ ∃ g, w.heap.size ≤ g ∧ RefMem (w4.setCell ⟨w.heap.size, 2, none⟩ s) w.heap.size g base size N m := by
  have hB4 : Below w.heap.size w w4 := hB3.drew.grown hgrow (by show w.heap.size ≤ w3.heap.size; omega) (fun k hk => by cases hk)
  have hT4 : w4.heap[w.heap.size]? = some (.cells #[.int .u64 base, .int .u64 size, .slice none 0 0] 49 (0, 0)) := (hgrow.block w.heap.size (by show w.heap.size < w3.heap.size; omega) (fun h => by cases h)).trans HT
  have hB5 : Below w.heap.size w (w4.setCell ⟨w.heap.size, 2, none⟩ s) := hB4.setCell (Nat.le_refl _) s
  have hS : (w4.setCell ⟨w.heap.size, 2, none⟩ s).heap[w.heap.size]? = some (.cells #[.int .u64 base, .int .u64 size, s] 49 (0, 0)) := by rw [heap_setCell_same w4 w.heap.size 2 _ _ _ hT4]; rfl
  have hO2 : Only (fun i => i = w.heap.size) w4 (w4.setCell ⟨w.heap.size, 2, none⟩ s) := (Only.refl (fun i => i = w.heap.size) w4).setCell (p := ⟨w.heap.size, 2, none⟩) (.inl rfl) s
  refine ⟨hB5, ?_⟩
  rcases Lays.own hown with ⟨hv, h0, _⟩ | ⟨g, cap, hv, hg, hl2⟩
  · have : l = [] := List.length_eq_zero_iff.1 h0
    subst this
    exact ⟨w.heap.size, Nat.le_refl _, [], ⟨sn, cc, by rw [hS, hs], hm, .inl rfl⟩, hf, hl, hN⟩
  · refine ⟨g, by omega, l, ⟨sn, cc, by rw [hS, hs], hm, .inr ⟨?_, by omega, hl2.keeps hO2 (by omega)⟩⟩, hf, hl, hN⟩
    rw [hs] at hv; injection hv

set_option maxRecDepth 100000 in
set_option maxHeartbeats 2000000 in
theorem refTwin_any (w : World) (b g : Nat) (base size : Int) (N : Nat) (m : Int → Int) (h : RefMem w b g base size N m) :
    Calls Try.prog 24 #[.pointer (some ⟨b, 0, none⟩)] w (TwinEnd w base size N m) := by
  obtain ⟨i0, hi, hz0, hz1, hz2⟩ := info_parts info_cell
  obtain ⟨l, hr, hfi, hlo, hN⟩ := h
  have hb0 := hr.base
  have hb1 := hr.size
  obtain ⟨a, c, hb, hm, hx⟩ := hr
  have hbl : b < w.heap.size := (Array.getElem?_eq_some_iff.1 hb).1
  have hb2 : w.cell? ⟨b, 2, none⟩ = some (.slice a l.length c) := by rw [cell_of_row w b 2 _ _ _ hb]; rfl
  have HFI := Lib.hid hfi
  have HLO := Lib.hid hlo
  have HBW := Lib.hid hb
  have hne : ¬ w.heap.size = b := by omega
  clear hfi hlo hb
  go_enter Try.func24, Try.ntmps24
  go_wp2
  go_still_tail 9, (by kernel_rfl)
  change wpList _ _ _ _ _ w.drew
  have Hb2 : Below w.heap.size w w.drew := (Below.refl _ _).drew
  have Hs2 : w.drew.heap.size = w.heap.size := rfl
  generalize w.drew = w2 at *
  go_wp2
  have B3 : w2.heap.size = w.heap.size := Hs2
  have hT : (w2.alloc (.cells #[.int .u64 base, .int .u64 size, .slice none 0 0] 49)).heap[w2.heap.size]? = some (.cells #[.int .u64 base, .int .u64 size, .slice none 0 0] 49 (0, 0)) := heap_alloc_new w2 _
  have hB3 : Below w.heap.size w (w2.alloc (.cells #[.int .u64 base, .int .u64 size, .slice none 0 0] 49)) := Hb2.alloc (by omega) _
  have hz3 : (w2.alloc (.cells #[.int .u64 base, .int .u64 size, .slice none 0 0] 49)).heap.size = w.heap.size + 1 := by rw [World.size_alloc, B3]
  generalize (w2.alloc (.cells #[.int .u64 base, .int .u64 size, .slice none 0 0] 49)) = w3 at *
  have hb3 := (hB3.block b hbl).trans HBW.out
  have c1 : w3.cell? ⟨b, 2, none⟩ = some (.slice a l.length c) := by rw [cell_of_row w3 b 2 _ _ _ hb3]; rfl
  have c2 : w3.cell? ⟨w2.heap.size, 2, none⟩ = some (.slice none 0 0) := by rw [cell_of_row w3 _ 2 _ _ _ hT]; rfl
  have c3 := frozen_of_row w3 w2.heap.size 2 _ _ hT
  have HT := Lib.hid hT
  rw [B3] at HT c2 c3
  clear hT
  by_cases hnil : l = []
  · subst hnil
    clear hx
    cases a
    all_goals go_region
    all_goals
      have hE := twin_end (l := []) (s := .slice none 0 0) (cc := 0) hB3 hz3 HT.out ⟨rfl, rfl, rfl, Nat.le_refl _, fun _ _ _ => rfl⟩ rfl (World.ownsRow_nil w3.drew _ _ _) (by simp) hN HFI.out HLO.out
      have HE := Lib.hid hE
      clear hE c1 c2 c3 hb3 hB3 hz3
      go_wp2
      go_ret
      obtain ⟨h1, g', h2, h3⟩ := HE.out
      exact ⟨h1, _, g', rfl, Nat.le_refl _, h2, h3⟩
  · obtain ⟨rfl, hgb, hl⟩ := hx.resolve_left hnil
    clear hx
    have hl3 := hl.keeps (Only.of_below (fun _ => False) hB3) id
    have hn : 0 < l.length := by
      rcases Nat.eq_zero_or_pos l.length with h0 | h0
      · exact absurd (List.length_eq_zero_iff.1 h0) hnil
      · exact h0
    go_region_law (refine step_append_lies _ rfl _ _ 47 rfl (w.heap.size + 1) 78 i0 (.agg #[.int .u64 0, .int .u8 0]) 2 16 Try.underlying47 hi hz0 hz1 hz2 rfl (by decide) _ 0 [] rfl (World.ownsRow_nil _ _ _ _) ⟨g, 0, none⟩ l.length c (cellsOf l) rfl (cellsOf_len l) (fun j u hj => (by rw [add_none, Nat.zero_add]; exact hl3.cell hj)) (cellsOf_one l) hn (by unfold maxLen; omega) (by omega) (by simp [hz3]) _ rfl ?_; intro g2 cap w4 hown hgrow hat hlt; have d1 : w4.cell? ⟨w.heap.size, 2, none⟩ = some (.slice none 0 0) := (hgrow.cell_far ⟨w.heap.size, 2, none⟩ (by show w.heap.size < w3.heap.size; omega) (fun hh => (by have h0 : (some w.heap.size : Option Nat) = none := hh; cases h0))).trans c2; have d2 : w4.frozen? ⟨w.heap.size, 2, none⟩ = false := (hgrow.frozen_far ⟨w.heap.size, 2, none⟩ (by show w.heap.size < w3.heap.size; omega) (fun hh => (by have h0 : (some w.heap.size : Option Nat) = none := hh; cases h0))).trans c3)
    all_goals
      have hE := twin_end hB3 hz3 HT.out hgrow rfl (by simpa using hown) hm hN HFI.out HLO.out
      have HE := Lib.hid hE
      clear hE hown hgrow hat hlt d1 d2 c1 c2 c3 hl hl3 hb3 hB3 hz3
      go_wp2
      go_ret
      obtain ⟨h1, g', h2, h3⟩ := HE.out
      exact ⟨h1, _, g', rfl, Nat.le_refl _, h2, h3⟩

end Go.Proofs.Ytgfnhledfhhkoaa
