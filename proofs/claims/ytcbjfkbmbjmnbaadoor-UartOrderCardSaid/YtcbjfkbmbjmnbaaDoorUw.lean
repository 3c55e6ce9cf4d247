/- Layer 6's laws: a row of bytes of the law's own that may have been cut at its beginning; what append and cutting leave. -/
import Derived.Test.YtcbjfkbmbjmnbaaDoorUo
namespace Go.Proofs.YtcbjfkbmbjmnbaaDoor
open Go.RowKit
set_option linter.unusedVariables false

/-- The slice v reads as the bytes xs, out of a block of its own, of which all that it may grow into is there. -/
def RowO (w : World) (v : Value) (xs : List Int) : Prop :=
  Byt xs ∧ ((v = .slice none 0 0 ∧ xs = []) ∨ ∃ g d cap cur t, v = .slice (some ⟨g, d, none⟩) xs.length cap ∧ xs.length ≤ cap ∧ cap ≤ maxLen ∧ w.heap[g]? = some (.cells cur t (0, 0)) ∧ d + cap ≤ cur.size ∧ ∀ j, j < xs.length → cur[d + j]? = some (.int .u8 (xs.getD j 0)))
theorem RowO.nil (w : World) : RowO w (.slice none 0 0) [] := ⟨Byt.nil, .inl ⟨rfl, rfl⟩⟩
theorem RowO.lt {w : World} {v : Value} {xs : List Int} (h : RowO w v xs) : ∀ g, v.ownBlock = some g → g < w.heap.size := by
  intro g hg
  rcases h.2 with ⟨rfl, _⟩ | ⟨g', d, cap, cur, t, rfl, _, _, hh, _⟩
  · simp [Value.ownBlock] at hg
  · simp [Value.ownBlock] at hg; subst hg; exact (Array.getElem?_eq_some_iff.1 hh).1
theorem RowO.keeps {w w' : World} {v : Value} {xs : List Int} {T : Nat → Prop} (h : RowO w v xs) (o : Only T w w') (hd : ∀ g, v.ownBlock = some g → ¬ T g) : RowO w' v xs := by
  refine ⟨h.1, ?_⟩
  rcases h.2 with h | ⟨g, d, cap, cur, t, rfl, h1, h2, hh, h3⟩
  · exact .inl h
  · exact .inr ⟨g, d, cap, cur, t, rfl, h1, h2, o.keeps (hd g rfl) hh, h3⟩
theorem RowO.below {w w' : World} {v : Value} {xs : List Int} (h : RowO w v xs) (o : Below w.heap.size w w') : RowO w' v xs := h.keeps (Only.of_below (fun _ => False) o) fun _ _ => id
theorem RowO.reads {w : World} {v : Value} {xs : List Int} (h : RowO w v xs) : ∃ a c, v = .slice a xs.length c ∧ xs.length ≤ c ∧ c ≤ maxLen ∧ ((a = none ∧ c = 0 ∧ xs = []) ∨ ∃ g off, a = some ⟨g, off, none⟩ ∧ g < w.heap.size ∧ ∀ j, j < xs.length → w.cell? ⟨g, off + j, none⟩ = some (.int .u8 (xs.getD j 0))) := by
  rcases h.2 with ⟨rfl, rfl⟩ | ⟨g, d, cap, cur, t, rfl, h1, h2, hh, _, h3⟩
  · exact ⟨none, 0, rfl, Nat.le_refl _, Nat.zero_le _, .inl ⟨rfl, rfl, rfl⟩⟩
  · exact ⟨_, cap, rfl, h1, h2, .inr ⟨g, d, rfl, (Array.getElem?_eq_some_iff.1 hh).1, fun j hj => by rw [cell_of_row w g _ _ _ _ hh]; exact h3 j hj⟩⟩
theorem RowO.conv {w : World} {v : Value} {xs : List Int} (h : RowO w v xs) : (convert 28 9 v).run Tryd.prog w = .ok (.string (strOfNums xs)) w := by
  obtain ⟨a, c, rfl, _, _, h⟩ := h.reads
  rcases h with ⟨rfl, rfl, rfl⟩ | ⟨g, off, rfl, hlt, hc⟩
  · rw [run_convert_bytes_string w 28 9 5 none _ 0 Tryd.underlying28 Tryd.underlying5 Tryd.underlying9]
    simp [Conv.bytesToString]; rfl
  · exact run_convert_bytes_arg w 28 5 Tryd.underlying28 Tryd.underlying5 g off xs.length c xs rfl hc _ Tryd.underlying9
theorem rowO_of {w : World} {base : Nat} {v : Value} {xs : List Int} (hb : Byt xs) (h : w.ownsRow base 5 1 v xs.length (u8s xs)) : RowO w v xs := by
  refine ⟨hb, ?_⟩
  rcases h.2 with ⟨hv, h0⟩ | ⟨g, cap, cur, hv, _, hh, h1, h2, h3, h4⟩
  · exact .inl ⟨hv, List.eq_nil_of_length_eq_zero h0⟩
  · refine .inr ⟨g, 0, cap, cur, _, hv, h1, h2, hh, by omega, fun j hj => ?_⟩
    have h5 : (u8s xs)[j]? = some (.int .u8 (xs.getD j 0)) := u8s_at hj
    rw [← h4, List.getElem?_take, if_pos (by omega)] at h5
    rw [Nat.zero_add]; simpa using h5
/-- One byte more. -/
theorem run_pushO (w : World) (v : Value) (xs : List Int) (h : RowO w v xs) (hl : xs.length ≤ 70000) (B off : Nat) (b : Int) (c : Nat) (hc : w.cell? ⟨B, off, none⟩ = some (.int .u8 b)) (hb : 0 ≤ b ∧ b < 256) (ty : TypeId) :
    ∃ a' c' w', (Builtin.append_ #[28, 28] ty #[v, .slice (some ⟨B, off, none⟩) 1 c]).run Tryd.prog w = .ok (.slice a' (xs.length + 1) c') w' ∧ RowO w' (.slice a' (xs.length + 1) c') (xs ++ [b]) ∧ Only (fun i => v.ownBlock = some i) w w' ∧
      (∀ g, (Value.slice a' (xs.length + 1) c').ownBlock = some g → v.ownBlock = some g ∨ w.heap.size ≤ g) := by
  obtain ⟨i0, hi, hz0, hz1, hz2⟩ := info_parts8 info_u8
  have hn : ∀ j u, [Value.int .u8 b][j]? = some u → w.cell? ((⟨B, off, none⟩ : Addr).add j) = some u := by
    intro j u hj
    match j, hj with
    | 0, hj => simp at hj; subst hj; rw [add_none]; exact hc
    | (j + 1), hj => simp at hj
  have h1 : ∀ u ∈ [Value.int .u8 b], u.oneCell' = true := by intro u hu; simp at hu; subst hu; rfl
  have e1 : u8s (xs ++ [b]) = u8s xs ++ [.int .u8 b] := by simp [u8s]
  have e2 : (xs ++ [b]).length = xs.length + 1 := by simp
  have fin : ∀ v' w', (Builtin.append_ #[28, 28] ty #[v, .slice (some ⟨B, off, none⟩) 1 c]).run Tryd.prog w = .ok v' w' → RowO w' v' (xs ++ [b]) → Only (fun i => v.ownBlock = some i) w w' → (∀ g, v'.ownBlock = some g → v.ownBlock = some g ∨ w.heap.size ≤ g) →
      ∃ a' c' w', (Builtin.append_ #[28, 28] ty #[v, .slice (some ⟨B, off, none⟩) 1 c]).run Tryd.prog w = .ok (.slice a' (xs.length + 1) c') w' ∧ RowO w' (.slice a' (xs.length + 1) c') (xs ++ [b]) ∧ Only (fun i => v.ownBlock = some i) w w' ∧ (∀ g, (Value.slice a' (xs.length + 1) c').ownBlock = some g → v.ownBlock = some g ∨ w.heap.size ≤ g) := by
    intro v' w' hr hR hO hv
    obtain ⟨a', c', hv2, _⟩ := hR.reads
    rw [e2] at hv2
    subst hv2
    exact ⟨a', c', w', hr, hR, hO, hv⟩
  rcases h.2 with ⟨rfl, rfl⟩ | ⟨g, d, cap, cur, t, rfl, q1, q2, hh, q3, q4⟩
  · obtain ⟨v', w', hr, h2, h3, _, h5⟩ := run_append_own_at (P := Tryd.prog) w 0 28 ty 5 i0 (.int .u8 0) 1 1 Tryd.underlying28 hi hz0 hz1 hz2 rfl (by decide) (.slice none 0 0) 0 [] (World.ownsRow_nil _ _ _ _) ⟨B, off, none⟩ 1 c [.int .u8 b] rfl hn h1 (by unfold maxLen; omega) (by omega) (Nat.zero_le _)
    refine fin v' w' hr (rowO_of (h.1.snoc hb) (by simpa [u8s] using h2)) ((Only.refl _ w).grown h3 (fun k hk => .inl hk)) fun g' hg => ?_
    rcases h5 with h5 | h5
    · exact .inl (h5 ▸ hg)
    · rw [h5] at hg; injection hg with hg; exact .inr (by omega)
  · have hcs : ∀ j, j < xs.length → w.cell? ⟨g, d + j, none⟩ = some (.int .u8 (xs.getD j 0)) := fun j hj => by rw [cell_of_row w g _ _ _ _ hh]; exact q4 j hj
    by_cases hroom : xs.length + 1 ≤ cap
    · have hsz : d + xs.length < cur.size := by omega
      have hex : w.cell? ⟨g, d + xs.length, none⟩ = some cur[d + xs.length] := by rw [cell_of_row w g _ _ _ _ hh]; simp [hsz]
      have hr := run_append_room_cells (P := Tryd.prog) w 28 ty 5 i0 Tryd.underlying28 hi g d xs.length cap ⟨B, off, none⟩ 1 c [.int .u8 b] (by rw [hz1]; rfl) hn h1 hroom
        (fun j hj => by
          obtain rfl : j = 0 := by simp at hj; omega
          have : d + xs.length * i0.size + 0 = d + xs.length := by rw [hz1]; omega
          rw [this, hex]; rfl)
        (fun j hj => by
          obtain rfl : j = 0 := by simp at hj; omega
          exact frozen_of_row w g _ _ _ hh)
      have hsz1 : d + xs.length * i0.size = d + xs.length := by rw [hz1]; omega
      rw [hsz1] at hr
      have hw : w.setCells g (d + xs.length) [.int .u8 b] = w.setCell ⟨g, d + xs.length, none⟩ (.int .u8 b) := rfl
      rw [hw] at hr
      refine fin _ _ hr ⟨h.1.snoc hb, .inr ⟨g, d, cap, cur.setIfInBounds (d + xs.length) (.int .u8 b), t, by rw [e2], by rw [e2]; exact hroom, q2, heap_setCell_same w g _ _ _ _ hh, by simp; omega, fun j hj => ?_⟩⟩ (((Only.refl (fun i => i = g) w).setCell (p := ⟨g, d + xs.length, none⟩) (.inl rfl) _).mono fun i hi => .inl (by rw [hi]; rfl)) fun g' hg => .inl hg
      by_cases hj2 : j < xs.length
      · rw [Array.getElem?_setIfInBounds, if_neg (by omega), q4 j hj2]
        simp [List.getD, List.getElem?_append_left hj2]
      · have : j = xs.length := by rw [e2] at hj; omega
        subst this
        rw [Array.getElem?_setIfInBounds, if_pos rfl, if_pos hsz]
        simp [List.getD]
    · obtain ⟨v', w', hr, h2, h3⟩ := run_append_arg_grows (P := Tryd.prog) w 28 ty 5 i0 (.int .u8 0) 1 1 Tryd.underlying28 hi hz0 hz1 hz2 rfl (by decide) ⟨g, d, none⟩ xs.length cap (u8s xs) (by rw [u8s_len]; omega) (fun j u hj => by
        obtain ⟨hj2, rfl⟩ := u8s_get hj
        rw [add_none]; exact hcs j hj2) ⟨B, off, none⟩ 1 c [.int .u8 b] rfl hn (by omega) (by unfold maxLen; omega) (by omega)
      exact fin v' w' hr (rowO_of (h.1.snoc hb) (by rw [e1, e2]; exact h2)) ((Only.refl _ w).grown h3 (fun k hk => by cases hk)) fun g' hg' => .inr (h2.lt g' hg').1
/-- Its first byte is cut off. -/
theorem cutO {w : World} {g d n cap : Nat} {x : Int} {xs : List Int} (h : RowO w (.slice (some ⟨g, d, none⟩) n cap) (x :: xs)) : RowO w (.slice (some ⟨g, (if cap = 1 then d else d + 1), none⟩) xs.length (cap - 1)) xs := by
  refine ⟨h.1.tail, ?_⟩
  rcases h.2 with ⟨hv, _⟩ | ⟨g', d', cap', cur, t, hv, q1, q2, hh, q3, q4⟩
  · cases hv
  · injection hv with ha hn hc
    injection ha with ha
    injection ha with hg hd _
    subst hg hd hc
    simp only [List.length_cons] at q1 q4
    refine .inr ⟨g, _, cap - 1, cur, t, rfl, by omega, by omega, hh, by split <;> omega, fun j hj => ?_⟩
    rw [if_neg (by omega)]
    have := q4 (j + 1) (by omega)
    rw [show d + 1 + j = d + (j + 1) by omega, this]; simp

end Go.Proofs.YtcbjfkbmbjmnbaaDoor
