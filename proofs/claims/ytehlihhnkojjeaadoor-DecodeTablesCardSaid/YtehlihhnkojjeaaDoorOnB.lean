/- Layer 9: a Decoder with its table: 128 rows of Ops, each with a block of its own; one Op more. -/
import Derived.Test.YtehlihhnkojjeaaDoorFdG
import Derived.Test.YtehlihhnkojjeaaDoorDu
import Derived.Test.YtehlihhnkojjeaaDoorOnly
import Derived.Test.YtehlihhnkojjeaaDoorArr
import Derived.Maps.AppendAt
namespace Go.Proofs.YtehlihhnkojjeaaDoor
open Go.RowKit
set_option linter.unusedVariables false
set_option maxRecDepth 100000

theorem own_only {w w' : World} {B : Nat} {e : TypeId} {s : Nat} {v : Value} {n : Nat} {xs : List Value} {T : Nat → Prop} (h : w.ownsRow B e s v n xs) (o : Only T w w') (hd : ∀ g, v.ownBlock = some g → ¬ T g) : w'.ownsRow B e s v n xs := by
  refine ⟨h.1, ?_⟩
  rcases h.2 with hn | ⟨g, cap, cur, rfl, hb, hg, rest⟩
  · exact .inl hn
  · exact .inr ⟨g, cap, cur, rfl, hb, o.keeps (hd g rfl) hg, rest⟩
theorem own_slice' {w : World} {B : Nat} {e : TypeId} {s : Nat} {v : Value} {n : Nat} {xs : List Value} (h : w.ownsRow B e s v n xs) : ∃ A C, v = .slice A n C := by
  rcases h.2 with ⟨hv, h0⟩ | ⟨g, cap, cur, hv, _⟩
  · exact ⟨none, 0, by rw [hv, h0]⟩
  · exact ⟨_, cap, hv⟩
/-- One number more in a row of the object's own. -/
theorem run_pushI (w : World) (B : Nat) (v : Value) (xs : List Int) (h : w.ownsRow B 3 1 v xs.length (xs.map (Value.int .i64))) (hl : xs.length ≤ 70000) (hB : B ≤ w.heap.size) (g off : Nat) (b : Int) (c : Nat) (hc : w.cell? ⟨g, off, none⟩ = some (.int .i64 b)) (ty : TypeId) :
    ∃ v' w', (Builtin.append_ #[48, 48] ty #[v, .slice (some ⟨g, off, none⟩) 1 c]).run Tryd.prog w = .ok v' w' ∧ w'.ownsRow B 3 1 v' (xs ++ [b]).length ((xs ++ [b]).map (Value.int .i64)) ∧ Only (fun i => v.ownBlock = some i) w w' ∧
      (∀ g, v'.ownBlock = some g → v.ownBlock = some g ∨ w.heap.size ≤ g) := by
  obtain ⟨i0, hi, hz0, hz1, hz2⟩ := info_parts info_int
  have hn : ∀ j u, [Value.int .i64 b][j]? = some u → w.cell? ((⟨g, off, none⟩ : Addr).add j) = some u := by
    intro j u hj
    match j, hj with
    | 0, hj => simp at hj; subst hj; rw [add_none]; exact hc
    | (j + 1), hj => simp at hj
  have h1 : ∀ u ∈ [Value.int .i64 b], u.oneCell' = true := by intro u hu; simp at hu; subst hu; rfl
  obtain ⟨v', w', hr, h2, h3, _, h5⟩ := run_append_own_at (P := Tryd.prog) w B 48 ty 3 i0 (.int .i64 0) 1 8 Tryd.underlying48 hi hz0 hz1 hz2 rfl (by decide) v xs.length _ h ⟨g, off, none⟩ 1 c [.int .i64 b] rfl hn h1 (by unfold maxLen; omega) (by omega) hB
  refine ⟨v', w', hr, by rw [List.length_append, List.map_append]; exact h2, (Only.refl _ w).grown h3 (fun k hk => .inl hk), fun g hg => ?_⟩
  rcases h5 with h5 | h5
  · exact .inl (h5 ▸ hg)
  · rw [h5] at hg; injection hg with hg; exact .inr (by omega)

/-- A Decoder's cells: whether it is done, the lock, and the table's rows. -/
def tblF (d s : Int) (V : Nat → Value) : Nat → Value := fun k => if k = 0 then .int .u32 d else if k = 1 then .int .i32 s else if k = 2 then .int .u32 0 else V (k - 3)
structure Tbl (w : World) (b B : Nat) (d s : Int) (K : Nat → Nat) (V : Nat → Value) (L : Nat → List Int) : Prop where
  obj : w.heap[b]? = some (.cells (varr 131 (tblF d s V)) 51 (0, 0))
  bB : b < B
  rows : ∀ a, a < 128 → w.ownsRow B 3 1 (V a) (L a).length ((L a).map (Value.int .i64))
  lab : ∀ a g, a < 128 → (V a).ownBlock = some g → K g = a + 1
section
variable {w w' : World} {b B : Nat} {d s : Int} {K : Nat → Nat} {V : Nat → Value} {L : Nat → List Int}
theorem Tbl.lt (h : Tbl w b B d s K V L) : b < w.heap.size := (Array.getElem?_eq_some_iff.1 h.obj).1
theorem Tbl.own_lt (h : Tbl w b B d s K V L) {a g : Nat} (ha : a < 128) (hg : (V a).ownBlock = some g) : B ≤ g ∧ g < w.heap.size := (h.rows a ha).lt g hg
theorem Tbl.below (h : Tbl w b B d s K V L) (o : Below w.heap.size w w') : Tbl w' b B d s K V L :=
  ⟨(o.block _ h.lt).trans h.obj, h.bB, fun a ha => own_only (h.rows a ha) (Only.of_below (fun _ => False) o) fun _ _ => id, h.lab⟩
theorem Tbl.cell (h : Tbl w b B d s K V L) {k : Nat} (hk : k < 131) : w.cell? ⟨b, k, none⟩ = some (tblF d s V k) := by
  rw [cell_of_row w b k _ _ _ h.obj]; exact varr_get 131 _ k hk
theorem Tbl.at (h : Tbl w b B d s K V L) {a : Nat} (ha : a < 128) : w.cell? ⟨b, 3 + a, none⟩ = some (V a) := by
  rw [h.cell (by omega)]
  unfold tblF
  rw [if_neg (by omega), if_neg (by omega), if_neg (by omega)]; congr 2; omega
theorem Tbl.free (h : Tbl w b B d s K V L) (k : Nat) : w.frozen? ⟨b, k, none⟩ = false := frozen_of_row w b k _ _ h.obj
theorem tbl_set0 (h : Tbl w b B d s K V L) (e : Int) : Tbl (w.setCell ⟨b, 0, none⟩ (.int .u32 e)) b B e s K V L := by
  refine ⟨?_, h.bB, fun a ha => own_only (h.rows a ha) ((Only.refl (fun i => i = b) w).setCell (p := ⟨b, 0, none⟩) (.inl rfl) _) fun g hg e => by have := (h.own_lt ha hg).1; have := h.bB; omega, h.lab⟩
  rw [heap_setCell_same w b 0 _ _ _ h.obj, varr_set]
  refine congrArg some (congrArg (fun z => Obj.cells z 51 (0, 0)) ?_)
  exact varr_congr fun i hi => by unfold tblF; split <;> rfl
theorem tbl_set1 (h : Tbl w b B d s K V L) (e : Int) : Tbl (w.setCell ⟨b, 1, none⟩ (.int .i32 e)) b B d e K V L := by
  refine ⟨?_, h.bB, fun a ha => own_only (h.rows a ha) ((Only.refl (fun i => i = b) w).setCell (p := ⟨b, 1, none⟩) (.inl rfl) _) fun g hg e => by have := (h.own_lt ha hg).1; have := h.bB; omega, h.lab⟩
  rw [heap_setCell_same w b 1 _ _ _ h.obj, varr_set]
  refine congrArg some (congrArg (fun z => Obj.cells z 51 (0, 0)) ?_)
  exact varr_congr fun i hi => by
    unfold tblF
    by_cases e1 : i = 1
    · subst e1; simp
    · rw [if_neg e1]; split
      · rfl
      · first | rfl | (rw [if_neg e1, if_neg e1])
/-- Row a turned. -/
def updV (V : Nat → Value) (a : Nat) (v : Value) : Nat → Value := fun i => if i = a then v else V i
def updL (L : Nat → List Int) (a : Nat) (x : List Int) : Nat → List Int := fun i => if i = a then x else L i
/-- One Op more in row a: the append, and the Decoder behind its store. -/
theorem Tbl.push (h : Tbl w b B d s K V L) (hB : B ≤ w.heap.size) {a : Nat} (ha : a < 128) (hl : (L a).length ≤ 1000) (j : Int) (ty : TypeId) :
    ∃ A n C A2 n2 C2 w', V a = .slice A n C ∧ (Builtin.append_ #[48, 48] ty #[.slice A n C, .slice (some ⟨w.heap.size, 0, none⟩) 1 1]).run Tryd.prog (w.drew.alloc (.cells #[.int .i64 j] 3)) = .ok (.slice A2 n2 C2) w' ∧
      w'.cell? ⟨b, 3 + a, none⟩ = some (.slice A n C) ∧ w'.frozen? ⟨b, 3 + a, none⟩ = false ∧
      (∃ K', Tbl (w'.setCell ⟨b, 3 + a, none⟩ (.slice A2 n2 C2)) b B d s K' (updV V a (.slice A2 n2 C2)) (updL L a (L a ++ [j]))) ∧
      Only (fun i => i = b ∨ B ≤ i) w (w'.setCell ⟨b, 3 + a, none⟩ (.slice A2 n2 C2)) := by
  have B1 : Below w.heap.size w (w.drew.alloc (.cells #[.int .i64 j] 3)) := (Below.refl _ _).drew.alloc (Nat.le_refl _) _
  have hW : Tbl (w.drew.alloc (.cells #[.int .i64 j] 3)) b B d s K V L := h.below B1
  have hc : (w.drew.alloc (.cells #[.int .i64 j] 3)).cell? ⟨w.heap.size, 0, none⟩ = some (.int .i64 j) := by
    have hz : (w.drew.alloc (.cells #[.int .i64 j] 3)).heap[w.heap.size]? = some (.cells #[.int .i64 j] 3 (0, 0)) := heap_alloc_new w.drew _
    rw [cell_of_row _ _ _ _ _ _ hz]; rfl
  obtain ⟨A, C, hv⟩ := own_slice' (h.rows a ha)
  obtain ⟨v', w', hr, h2, h3, h4⟩ := run_pushI _ B (V a) (L a) (hW.rows a ha) (by omega) (Nat.le_trans hB B1.size) w.heap.size 0 j 1 hc ty
  obtain ⟨A2, C2, hv2⟩ := own_slice' h2
  subst hv2
  have hbb : ¬ (V a).ownBlock = some b := fun e => by have := (h.own_lt ha e).1; have := h.bB; omega
  have hobj : w'.heap[b]? = some (.cells (varr 131 (tblF d s V)) 51 (0, 0)) := h3.keeps hbb hW.obj
  refine ⟨A, (L a).length, C, A2, _, C2, w', hv, by rw [← hv]; exact hr, ?_, frozen_of_row w' b _ _ _ hobj, ⟨fun g => if w.heap.size ≤ g then a + 1 else K g, ?_⟩, ?_⟩
  · rw [cell_of_row w' b _ _ _ _ hobj, ← hv, varr_get 131 _ _ (by omega)]
    unfold tblF
    rw [if_neg (by omega), if_neg (by omega), if_neg (by omega)]; congr 2; omega
  · have hO : Only (fun i => i = b) w' (w'.setCell ⟨b, 3 + a, none⟩ (.slice A2 (L a ++ [j]).length C2)) := (Only.refl (fun i => i = b) w').setCell (p := ⟨b, 3 + a, none⟩) (.inl rfl) _
    refine ⟨?_, h.bB, fun i hi => ?_, fun i g hi hg => ?_⟩
    · rw [heap_setCell_same w' b _ _ _ _ hobj, varr_set]
      refine congrArg some (congrArg (fun z => Obj.cells z 51 (0, 0)) ?_)
      exact varr_congr fun i hi => by
        unfold tblF updV
        by_cases e : i = 3 + a
        · rw [if_pos e, if_neg (by omega), if_neg (by omega), if_neg (by omega), if_pos (by omega)]
        · rw [if_neg e]
          split
          · rfl
          · split
            · rfl
            · split
              · rfl
              · rw [if_neg (by omega)]
    · unfold updV updL
      by_cases e : i = a
      · rw [if_pos e, if_pos e]
        exact own_only h2 hO fun g hg e => by have := (h2.lt g hg).1; have := h.bB; omega
      · rw [if_neg e, if_neg e]
        have hr2 := own_only (hW.rows i hi) h3 fun g hg hg2 => by
          have k1 := h.lab i g hi hg
          have k2 := h.lab a g ha hg2
          omega
        exact own_only hr2 hO fun g hg e => by have := (h.own_lt hi hg).1; have := h.bB; omega
    · unfold updV at hg
      by_cases e : i = a
      · rw [if_pos e] at hg
        rcases h4 g hg with h5 | h5
        · have := h.own_lt ha h5
          rw [if_neg (by omega)]; rw [e]; exact h.lab a g ha h5
        · have : w.heap.size ≤ g := Nat.le_trans B1.size h5
          rw [if_pos this, e]
      · rw [if_neg e] at hg
        have := h.own_lt hi hg
        rw [if_neg (by omega)]; exact h.lab i g hi hg
  · exact (((Only.of_below (fun i => i = b ∨ B ≤ i) B1).step h3 fun i hi => .inl (.inr (h.own_lt ha hi).1))).setCell (p := ⟨b, 3 + a, none⟩) (.inl (.inl rfl)) _
end

end Go.Proofs.YtehlihhnkojjeaaDoor
