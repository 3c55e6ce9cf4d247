/- Layer 6: a row of bytes that an object owns, or that has no room; what append leaves of it; an object that holds two rows. -/
import Derived.Test.YtcbjfkbmbjmnbaaDoorRows
import Derived.Test.YtcbjfkbmbjmnbaaDoorOnly
import Derived.Test.YtcbjfkbmbjmnbaaDoorBv
import Derived.Test.YtcbjfkbmbjmnbaaDoorInts
import Derived.Maps.AppendAt
import Derived.ArgAppend
import Derived.Laws.BytesArg
import Derived.WalkLawsBesides
import Derived.BigQuiet
import Derived.Deep.QuietTactic
import Derived.Lib.Hide
namespace Go.Proofs.YtcbjfkbmbjmnbaaDoor
open Go.RowKit
set_option linter.unusedVariables false

def Byt (xs : List Int) : Prop := ∀ x ∈ xs, 0 ≤ x ∧ x < 256
def u8s (xs : List Int) : List Value := xs.map (Value.int .u8)
theorem u8s_len (xs : List Int) : (u8s xs).length = xs.length := by simp [u8s]
theorem u8s_one (xs : List Int) : ∀ u ∈ u8s xs, u.oneCell' = true := by
  intro u hu; obtain ⟨z, _, rfl⟩ := List.mem_map.1 hu; rfl
theorem u8s_get {xs : List Int} {j : Nat} {u : Value} (h : (u8s xs)[j]? = some u) : j < xs.length ∧ u = .int .u8 (xs.getD j 0) := by
  unfold u8s at h
  rw [List.getElem?_map] at h
  rcases Nat.lt_or_ge j xs.length with hl | hl
  · refine ⟨hl, ?_⟩
    rw [List.getElem?_eq_getElem hl] at h
    simp at h
    rw [← h]; simp [List.getD, hl]
  · rw [List.getElem?_eq_none hl] at h; cases h
theorem u8s_at {xs : List Int} {j : Nat} (h : j < xs.length) : (u8s xs)[j]? = some (.int .u8 (xs.getD j 0)) := by
  unfold u8s; rw [List.getElem?_map, List.getElem?_eq_getElem h]; simp [List.getD, h]
theorem Byt.nil : Byt [] := fun x h => by cases h
theorem Byt.snoc {xs : List Int} (h : Byt xs) {b : Int} (hb : 0 ≤ b ∧ b < 256) : Byt (xs ++ [b]) := by
  intro x hx
  rcases List.mem_append.1 hx with hx | hx
  · exact h x hx
  · simp at hx; subst hx; exact hb
theorem Byt.tail {xs : List Int} (h : Byt xs) : Byt xs.tail := fun x hx => h x (List.mem_of_mem_tail hx)
theorem Byt.get {xs : List Int} (h : Byt xs) {j : Nat} (hj : j < xs.length) : 0 ≤ xs.getD j 0 ∧ xs.getD j 0 < 256 := by
  have : xs.getD j 0 = xs[j] := by simp [List.getD, hj]
  rw [this]; exact h _ (List.getElem_mem hj)

/-- The slice v reads as the bytes xs; its row is its own, or it has no room. -/
structure RowB (w : World) (v : Value) (xs : List Int) : Prop where
  byt : Byt xs
  lies : w.ownsRow 0 5 1 v xs.length (u8s xs) ∨ ∃ g off, v = .slice (some ⟨g, off, none⟩) xs.length xs.length ∧ g < w.heap.size ∧ ∀ j, j < xs.length → w.cell? ⟨g, off + j, none⟩ = some (.int .u8 (xs.getD j 0))

theorem RowB.nil (w : World) : RowB w (.slice none 0 0) [] := ⟨Byt.nil, .inl (World.ownsRow_nil _ _ _ _)⟩
theorem RowB.lt {w : World} {v : Value} {xs : List Int} (h : RowB w v xs) : ∀ g, v.ownBlock = some g → g < w.heap.size := by
  intro g hg
  rcases h.lies with h | ⟨g', off, rfl, hl, _⟩
  · exact (h.lt g hg).2
  · simp [Value.ownBlock] at hg; omega
/-- What it looks like. -/
theorem RowB.reads {w : World} {v : Value} {xs : List Int} (h : RowB w v xs) (hl : xs.length ≤ 70000) : ∃ a c, v = .slice a xs.length c ∧ xs.length ≤ c ∧ c ≤ maxLen ∧
    ((a = none ∧ c = 0 ∧ xs = []) ∨ ∃ g off, a = some ⟨g, off, none⟩ ∧ g < w.heap.size ∧ ∀ j, j < xs.length → w.cell? ⟨g, off + j, none⟩ = some (.int .u8 (xs.getD j 0))) := by
  rcases h.lies with h | ⟨g, off, rfl, hg, hc⟩
  · rcases h.2 with ⟨hv, h0⟩ | ⟨g, cap, cur, hv, _, hg, hn, hm, _, _⟩
    · have hx : xs = [] := List.eq_nil_of_length_eq_zero h0
      subst hx
      exact ⟨none, 0, hv, Nat.le_refl _, Nat.zero_le _, .inl ⟨rfl, rfl, rfl⟩⟩
    · subst hv
      refine ⟨_, cap, rfl, hn, hm, .inr ⟨g, 0, rfl, (Array.getElem?_eq_some_iff.1 hg).1, fun j hj => ?_⟩⟩
      have := h.cells (g := g) rfl j _ (u8s_at hj)
      rwa [add_none] at this
  · exact ⟨_, _, rfl, Nat.le_refl _, by unfold maxLen; omega, .inr ⟨g, off, rfl, hg, hc⟩⟩
theorem RowB.keeps {w w' : World} {v : Value} {xs : List Int} {T : Nat → Prop} (h : RowB w v xs) (o : Only T w w') (hd : ∀ g, v.ownBlock = some g → ¬ T g) : RowB w' v xs := by
  refine ⟨h.byt, ?_⟩
  rcases h.lies with h | ⟨g, off, rfl, hg, hc⟩
  · left
    refine ⟨h.1, ?_⟩
    rcases h.2 with hn | ⟨g, cap, cur, rfl, hb, hg, rest⟩
    · exact .inl hn
    · exact .inr ⟨g, cap, cur, rfl, hb, o.keeps (hd g rfl) hg, rest⟩
  · exact .inr ⟨g, off, rfl, Nat.lt_of_lt_of_le hg o.size, fun j hj => (World.cell?_of_block (o.block g hg (hd g rfl))).trans (hc j hj)⟩
theorem RowB.below {w w' : World} {v : Value} {xs : List Int} (h : RowB w v xs) (o : Below w.heap.size w w') : RowB w' v xs := h.keeps (Only.of_below (fun _ => False) o) fun _ _ => id

theorem info_u8 : (Tryd.prog.info? 5).map (fun i => (i.zero, i.size, i.bytes)) = some (some (.int .u8 0), 1, 1) := by kernel_rfl
theorem info_parts8 {t : TypeId} {z : Option Value} {n b : Nat} (h : (Tryd.prog.info? t).map (fun i => (i.zero, i.size, i.bytes)) = some (z, n, b)) : ∃ i, Tryd.prog.info? t = some i ∧ i.zero = z ∧ i.size = n ∧ i.bytes = b := by
  cases hi : Tryd.prog.info? t with
  | none => rw [hi] at h; cases h
  | some i =>
    rw [hi] at h
    simp at h
    exact ⟨i, rfl, h.1, h.2.1, h.2.2⟩

theorem own_base {w : World} {b b' : Nat} {e : TypeId} {s : Nat} {v : Value} {n : Nat} {xs : List Value} (h : w.ownsRow b e s v n xs) (hb : b' ≤ b := by omega) : w.ownsRow b' e s v n xs := by
  refine ⟨h.1, ?_⟩
  rcases h.2 with h0 | ⟨g, cap, cur, hv, hg, hh⟩
  · exact .inl h0
  · exact .inr ⟨g, cap, cur, hv, by omega, hh⟩

/-- One byte more. -/
theorem run_push (w : World) (v : Value) (xs : List Int) (h : RowB w v xs) (hl : xs.length ≤ 70000) (B off : Nat) (b : Int) (c : Nat) (hc : w.cell? ⟨B, off, none⟩ = some (.int .u8 b)) (hb : 0 ≤ b ∧ b < 256) (ty : TypeId) :
    ∃ v' w', (Builtin.append_ #[28, 28] ty #[v, .slice (some ⟨B, off, none⟩) 1 c]).run Tryd.prog w = .ok v' w' ∧ RowB w' v' (xs ++ [b]) ∧ Only (fun i => v.ownBlock = some i) w w' ∧
      (∀ g, v'.ownBlock = some g → v.ownBlock = some g ∨ w.heap.size ≤ g) := by
  obtain ⟨i0, hi, hz0, hz1, hz2⟩ := info_parts8 info_u8
  have hn : ∀ j u, [Value.int .u8 b][j]? = some u → w.cell? ((⟨B, off, none⟩ : Addr).add j) = some u := by
    intro j u hj
    match j, hj with
    | 0, hj => simp at hj; subst hj; rw [add_none]; exact hc
    | (j + 1), hj => simp at hj
  have h1 : ∀ u ∈ [Value.int .u8 b], u.oneCell' = true := by intro u hu; simp at hu; subst hu; rfl
  have e1 : u8s (xs ++ [b]) = u8s xs ++ [.int .u8 b] := by simp [u8s]
  have e2 : (xs ++ [b]).length = xs.length + 1 := by simp
  rcases h.lies with ho | ⟨g, off', rfl, hg, hcs⟩
  · obtain ⟨v', w', hr, h2, h3, _, h5⟩ := run_append_own_at (P := Tryd.prog) w 0 28 ty 5 i0 (.int .u8 0) 1 1 Tryd.underlying28 hi hz0 hz1 hz2 rfl (by decide) v xs.length _ ho ⟨B, off, none⟩ 1 c [.int .u8 b] rfl hn h1 (by unfold maxLen; omega) (by omega) (Nat.zero_le _)
    refine ⟨v', w', hr, ⟨h.byt.snoc hb, .inl (by rw [e1, e2]; exact h2)⟩, (Only.refl _ w).grown h3 (fun k hk => .inl hk), fun g hg => ?_⟩
    rcases h5 with h5 | h5
    · exact .inl (h5 ▸ hg)
    · rw [h5] at hg; injection hg with hg; exact .inr (by omega)
  · obtain ⟨v', w', hr, h2, h3⟩ := run_append_arg_grows (P := Tryd.prog) w 28 ty 5 i0 (.int .u8 0) 1 1 Tryd.underlying28 hi hz0 hz1 hz2 rfl (by decide) ⟨g, off', none⟩ xs.length xs.length (u8s xs) (by rw [u8s_len]; omega) (fun j u hj => by
      obtain ⟨hj2, rfl⟩ := u8s_get hj
      rw [add_none]; exact hcs j hj2) ⟨B, off, none⟩ 1 c [.int .u8 b] rfl hn (by omega) (by unfold maxLen; omega) (by omega)
    refine ⟨v', w', hr, ⟨h.byt.snoc hb, .inl (by rw [e1, e2]; exact own_base h2)⟩, (Only.refl _ w).grown h3 (fun k hk => by cases hk), fun g' hg' => .inr (h2.lt g' hg').1⟩

end Go.Proofs.YtcbjfkbmbjmnbaaDoor
