/- Layer 6: what UartOrder holds in a round: the uart, what came in, what was sent, the act. -/
import Derived.Test.YtcbjfkbmbjmnbaaDoorUs
import Derived.Test.YtcbjfkbmbjmnbaaDoorUw
import Derived.Test.YtcbjfkbmbjmnbaaDoorUaActs
namespace Go.Proofs.YtcbjfkbmbjmnbaaDoor
open Go.RowKit
set_option linter.unusedVariables false

/-- The uart, and two rows of bytes of the law's own, apart. -/
structure Ord (w0 w : World) (b : Nat) (F : Nat → Prop) (t : US) (vi : Value) (xs : List Int) (vo : Value) (ys : List Int) : Prop where
  own : OwnU w0 w b F t
  ri : RowO w vi xs
  ro : RowO w vo ys
  ni : ∀ g, vi.ownBlock = some g → w0.heap.size ≤ g ∧ ¬ F g
  no : ∀ g, vo.ownBlock = some g → w0.heap.size ≤ g ∧ ¬ F g
  io : ∀ g, vi.ownBlock = some g → ¬ vo.ownBlock = some g
/-- Beside them the act, in a block of its own. -/
structure OrdX (w0 w : World) (b : Nat) (F : Nat → Prop) (t : US) (vi : Value) (xs : List Int) (vo : Value) (ys : List Int) (bx : Nat) (x : ActV) : Prop where
  o : Ord w0 w b F t vi xs vo ys
  nf : ¬ F bx
  nvi : ¬ vi.ownBlock = some bx
  nvo : ¬ vo.ownBlock = some bx
  new : w0.heap.size ≤ bx
  lt : bx < w.heap.size
  hx : ActAt w ⟨bx, 0, none⟩ x
theorem actAt_keeps {S : Nat → Prop} {w w' : World} {b : Nat} {x : ActV} (h : ActAt w ⟨b, 0, none⟩ x) (k : Only S w w') (hn : ¬ S b) (hl : b < w.heap.size) : ActAt w' ⟨b, 0, none⟩ x := by
  have e : ∀ o, w'.cell? ⟨b, o, none⟩ = w.cell? ⟨b, o, none⟩ := fun o => World.cell?_of_block (k.block b hl hn)
  unfold ActAt at *
  simp only [add_none] at *
  simp only [e]
  exact h
section
variable {w0 w w' : World} {b : Nat} {F : Nat → Prop} {t t' : US} {vi vo : Value} {xs ys : List Int} {bx : Nat} {x : ActV}
theorem Ord.below (h : Ord w0 w b F t vi xs vo ys) (k : Below w.heap.size w w') : Ord w0 w' b F t vi xs vo ys := { h with own := h.own.below k, ri := h.ri.below k, ro := h.ro.below k }
theorem OrdX.below (h : OrdX w0 w b F t vi xs vo ys bx x) (k : Below w.heap.size w w') : OrdX w0 w' b F t vi xs vo ys bx x :=
  { h with o := h.o.below k, lt := Nat.lt_of_lt_of_le h.lt k.size, hx := actAt_keeps h.hx (Only.of_below (fun _ => False) k) id h.lt }
theorem OrdX.made (h : Ord w0 w b F t vi xs vo ys) (r0 : In63 x.d) (r1 : In64 x.a) (r2 : In63 x.n) (r3 : In64 x.v) : OrdX w0 (w.alloc (.cells #[.int .i64 x.d, .int .u64 x.a, .int .i64 x.n, .int .u64 x.v] 40)) b F t vi xs vo ys w.heap.size x := by
  have H0 := heap_alloc_new w (.cells #[.int .i64 x.d, .int .u64 x.a, .int .i64 x.n, .int .u64 x.v] 40)
  refine ⟨h.below (below_alloc w _), fun hi => by have := h.own.obj.lt _ hi; omega, fun hi => by have := h.ri.lt _ hi; omega, fun hi => by have := h.ro.lt _ hi; omega, h.own.bel.size, by rw [World.size_alloc]; omega, ?_⟩
  unfold ActAt
  simp only [add_none]
  refine ⟨?_, ?_, ?_, ?_, r0, r1, r2, r3⟩ <;> (rw [cell_of_row _ _ _ _ _ _ H0]; rfl)
theorem OrdX.turn (h : OrdX w0 w b F t vi xs vo ys bx x) (k : EndU cellsP 52 w b F t' w') : ∃ F', OrdX w0 w' b F' t' vi xs vo ys bx x := by
  have hk := k
  obtain ⟨o, F1, hF, hh⟩ := hk
  have hl := h.lt
  have li := h.o.ri.lt
  have lo := h.o.ro.lt
  obtain ⟨vi1, vo1, hp⟩ := hh
  refine ⟨F1, ⟨⟨h.o.own.tab0, Below.thenOnly h.o.own.bel o h.o.own.new h.o.own.bel.size, fun i hi => ?_, vi1, vo1, hp⟩, h.o.ri.keeps o fun g hg => (h.o.ni g hg).2, h.o.ro.keeps o fun g hg => (h.o.no g hg).2, fun g hg => ⟨(h.o.ni g hg).1, fun hi => ?_⟩, fun g hg => ⟨(h.o.no g hg).1, fun hi => ?_⟩, h.o.io⟩, fun hi => ?_, h.nvi, h.nvo, h.new, Nat.lt_of_lt_of_le h.lt o.size, actAt_keeps h.hx o h.nf h.lt⟩
  · rcases hF i hi with h1 | h1
    · exact h.o.own.new i h1
    · exact Nat.le_trans h.o.own.bel.size h1
  · rcases hF g hi with h1 | h1
    · exact (h.o.ni g hg).2 h1
    · have := li g hg; omega
  · rcases hF g hi with h1 | h1
    · exact (h.o.no g hg).2 h1
    · have := lo g hg; omega
  · rcases hF bx hi with h1 | h1
    · exact h.nf h1
    · omega
/-- One byte more came in. -/
theorem OrdX.pushI (h : OrdX w0 w b F t vi xs vo ys bx x) (hl : xs.length ≤ 70000) (y : Int) (hy : 0 ≤ y ∧ y < 256) : ∃ a' c' w', (Builtin.append_ #[28, 28] 28 #[vi, .slice (some ⟨w.heap.size, 0, none⟩) 1 1]).run Tryd.prog (w.alloc (.cells #[.int .u8 y] 5)) = .ok (.slice a' (xs.length + 1) c') w' ∧ OrdX w0 w' b F t (.slice a' (xs.length + 1) c') (xs ++ [y]) vo ys bx x := by
  have h2 := h.below (below_alloc w (.cells #[.int .u8 y] 5))
  obtain ⟨a', c', w', hr, hR, hO, hv⟩ := run_pushO _ vi xs h2.o.ri hl w.heap.size 0 y 1 (new_cell w _ _) hy 28
  have s2 := h2.o.own.bel.size
  have lf := h2.o.own.obj.lt
  have lo := h2.o.ro.lt
  have hl2 := h2.lt
  refine ⟨a', c', w', hr, ⟨⟨⟨h.o.own.tab0, Below.thenOnly h2.o.own.bel hO (fun i hi => (h2.o.ni i hi).1) s2, h2.o.own.new, h2.o.own.obj.keeps hO fun i hi e => (h2.o.ni i e).2 hi⟩, hR, h2.o.ro.keeps hO fun g hg e => h2.o.io g e hg, fun g hg => ?_, h2.o.no, fun g hg e => ?_⟩, h2.nf, fun e => ?_, h2.nvo, h2.new, Nat.lt_of_lt_of_le h2.lt hO.size, actAt_keeps h2.hx hO h2.nvi h2.lt⟩⟩
  · rcases hv g hg with h1 | h1
    · exact h2.o.ni g h1
    · exact ⟨Nat.le_trans s2 h1, fun hi => by have := lf g hi; omega⟩
  · rcases hv g hg with h1 | h1
    · exact h2.o.io g h1 e
    · have := lo g e; omega
  · rcases hv bx e with h1 | h1
    · exact h2.nvi h1
    · omega
/-- One byte more was sent. -/
theorem OrdX.pushO (h : OrdX w0 w b F t vi xs vo ys bx x) (hl : ys.length ≤ 70000) (y : Int) (hy : 0 ≤ y ∧ y < 256) : ∃ a' c' w', (Builtin.append_ #[28, 28] 28 #[vo, .slice (some ⟨w.heap.size, 0, none⟩) 1 1]).run Tryd.prog (w.alloc (.cells #[.int .u8 y] 5)) = .ok (.slice a' (ys.length + 1) c') w' ∧ OrdX w0 w' b F t vi xs (.slice a' (ys.length + 1) c') (ys ++ [y]) bx x := by
  have h2 := h.below (below_alloc w (.cells #[.int .u8 y] 5))
  obtain ⟨a', c', w', hr, hR, hO, hv⟩ := run_pushO _ vo ys h2.o.ro hl w.heap.size 0 y 1 (new_cell w _ _) hy 28
  have s2 := h2.o.own.bel.size
  have lf := h2.o.own.obj.lt
  have li := h2.o.ri.lt
  have hl2 := h2.lt
  refine ⟨a', c', w', hr, ⟨⟨⟨h.o.own.tab0, Below.thenOnly h2.o.own.bel hO (fun i hi => (h2.o.no i hi).1) s2, h2.o.own.new, h2.o.own.obj.keeps hO fun i hi e => (h2.o.no i e).2 hi⟩, h2.o.ri.keeps hO fun g hg e => h2.o.io g hg e, hR, h2.o.ni, fun g hg => ?_, fun g hg e => ?_⟩, h2.nf, h2.nvi, fun e => ?_, h2.new, Nat.lt_of_lt_of_le h2.lt hO.size, actAt_keeps h2.hx hO h2.nvo h2.lt⟩⟩
  · rcases hv g hg with h1 | h1
    · exact h2.o.no g h1
    · exact ⟨Nat.le_trans s2 h1, fun hi => by have := lf g hi; omega⟩
  · rcases hv g e with h1 | h1
    · exact h2.o.io g hg h1
    · have := li g hg; omega
  · rcases hv bx e with h1 | h1
    · exact h2.nvo h1
    · omega
theorem OrdX.nilI (h : OrdX w0 w b F t vi xs vo ys bx x) : OrdX w0 w b F t (.slice none 0 0) [] vo ys bx x :=
  { h with o := { h.o with ri := RowO.nil w, ni := fun g hg => by simp [Value.ownBlock] at hg, io := fun g hg => by simp [Value.ownBlock] at hg }, nvi := by simp [Value.ownBlock] }
theorem OrdX.cutI {g d n cap : Nat} {z : Int} (h : OrdX w0 w b F t (.slice (some ⟨g, d, none⟩) n cap) (z :: xs) vo ys bx x) : OrdX w0 w b F t (.slice (some ⟨g, (if cap = 1 then d else d + 1), none⟩) xs.length (cap - 1)) xs vo ys bx x :=
  { h with o := { h.o with ri := cutO h.o.ri, ni := h.o.ni, io := h.o.io }, nvi := h.nvi }
end

end Go.Proofs.YtcbjfkbmbjmnbaaDoor
