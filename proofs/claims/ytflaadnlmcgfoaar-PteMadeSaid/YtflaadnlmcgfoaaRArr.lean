/- Arrays of one-cell values in a block of their own: told by a function of the index. Plain Lean over the model. -/
import Derived.WalkKit
import Derived.ProofKit
import Derived.WalkSmall
import Derived.Laws.Rows
import Derived.Laws.Tables
namespace Go.Proofs.YtflaadnlmcgfoaaR
open Go.RowKit
set_option linter.unusedVariables false
set_option maxRecDepth 100000

/-- The array of n cells whose cell i is f i. -/
def varr (n : Nat) (f : Nat → Value) : Array Value := ((List.range n).map f).toArray
/-- The array of n bools. -/
def barr (n : Nat) (f : Nat → Bool) : Array Value := varr n fun i => .bool (f i)

theorem varr_size (n : Nat) (f : Nat → Value) : (varr n f).size = n := by unfold varr; simp
theorem varr_get (n : Nat) (f : Nat → Value) (j : Nat) (h : j < n) : (varr n f)[j]? = some (f j) := by unfold varr; simp [h]
theorem varr_congr {n : Nat} {f g : Nat → Value} (h : ∀ i, i < n → f i = g i) : varr n f = varr n g := by
  unfold varr; congr 1; exact List.map_congr_left fun i hi => h i (List.mem_range.1 hi)
theorem varr_set (n : Nat) (f : Nat → Value) (k : Nat) (v : Value) : (varr n f).setIfInBounds k v = varr n fun j => if j = k then v else f j := by
  apply Array.ext
  · simp [varr]
  · intro i h1 h2
    simp [varr]
    by_cases e : k = i
    · simp [e]
    · simp [e, show ¬ i = k from fun h => e h.symm]
theorem varr_one {n : Nat} {f : Nat → Value} (h : ∀ i, (f i).oneCell' = true) : (varr n f).all (·.oneCell') = true := by
  unfold varr; simp [h]
theorem barr_size (n : Nat) (f : Nat → Bool) : (barr n f).size = n := varr_size n _
theorem barr_one (n : Nat) (f : Nat → Bool) : (barr n f).all (·.oneCell') = true := varr_one fun _ => rfl
theorem barr_congr {n : Nat} {f g : Nat → Bool} (h : ∀ i, i < n → f i = g i) : barr n f = barr n g := varr_congr fun i hi => by rw [h i hi]
theorem barr_set (n : Nat) (f : Nat → Bool) (k : Nat) (b : Bool) : (barr n f).setIfInBounds k (.bool b) = barr n fun j => if j = k then b else f j := by
  unfold barr; rw [varr_set]
  exact varr_congr fun i _ => by by_cases e : i = k <;> simp [e]

/-- Block g of the world holds that array, and may be written. -/
def HoldsB (w : World) (g : Nat) (t : TypeId) (n : Nat) (f : Nat → Bool) : Prop := w.heap[g]? = some (.cells (barr n f) t (0, 0))

theorem HoldsB.cell {w : World} {g : Nat} {t : TypeId} {n : Nat} {f : Nat → Bool} (h : HoldsB w g t n f) {j : Nat} (hj : j < n) : w.cell? ⟨g, j, none⟩ = some (.bool (f j)) := by
  rw [cell_of_row w g j _ t _ h]; exact varr_get n _ j hj
theorem HoldsB.frozen {w : World} {g : Nat} {t : TypeId} {n : Nat} {f : Nat → Bool} (h : HoldsB w g t n f) (j : Nat) : w.frozen? ⟨g, j, none⟩ = false := frozen_of_row w g j _ t h
theorem HoldsB.set {w : World} {g : Nat} {t : TypeId} {n : Nat} {f : Nat → Bool} (h : HoldsB w g t n f) (k : Nat) (b : Bool) : HoldsB (w.setCell ⟨g, k, none⟩ (.bool b)) g t n fun j => if j = k then b else f j := by
  unfold HoldsB; rw [heap_setCell_same w g k _ t _ h, barr_set]
theorem HoldsB.other {w : World} {g : Nat} {t : TypeId} {n : Nat} {f : Nat → Bool} (h : HoldsB w g t n f) {a : Addr} (ha : g ≠ a.block) (v : Value) : HoldsB (w.setCell a v) g t n f := by
  unfold HoldsB; rw [heap_setCell_other w a g v ha]; exact h
theorem HoldsB.congr {w : World} {g : Nat} {t : TypeId} {n : Nat} {f k : Nat → Bool} (h : HoldsB w g t n f) (e : ∀ i, i < n → f i = k i) : HoldsB w g t n k := by
  unfold HoldsB at *; rw [h, barr_congr e]
theorem HoldsB.below {w w' : World} {B g : Nat} {t : TypeId} {n : Nat} {f : Nat → Bool} (h : HoldsB w g t n f) (hb : Below B w w') (hg : g < B) : HoldsB w' g t n f := by
  unfold HoldsB at *; rw [hb.block g hg]; exact h
theorem HoldsB.drewN {w : World} {g : Nat} {t : TypeId} {n : Nat} {f : Nat → Bool} (h : HoldsB w g t n f) (k : Nat) : HoldsB (w.drewN k) g t n f := h
theorem HoldsB.lt {w : World} {g : Nat} {t : TypeId} {n : Nat} {f : Nat → Bool} (h : HoldsB w g t n f) : g < w.heap.size := (Array.getElem?_eq_some_iff.1 h).1
theorem HoldsB.setRow {w : World} {g : Nat} {t : TypeId} {n : Nat} {f : Nat → Bool} (h : HoldsB w g t n f) (k : Nat → Bool) : HoldsB (w.setRow g (barr n k)) g t n k := setRow_heap w g _ _ t _ h
theorem HoldsB.alloc {w : World} {g : Nat} {t : TypeId} {n : Nat} {f : Nat → Bool} (h : HoldsB w g t n f) (o : Obj) : HoldsB (w.alloc o) g t n f := (Below.heap_alloc w o g h.lt).trans h
theorem HoldsB.setRow_other {w : World} {g g' : Nat} {t : TypeId} {n : Nat} {f : Nat → Bool} (h : HoldsB w g t n f) (hg : g ≠ g') (cs : Array Value) : HoldsB (w.setRow g' cs) g t n f := (Go.setRow_other w g' g cs hg).trans h
/-- A new block of noughts, written whole. -/
theorem HoldsB.laid (w : World) (t : TypeId) (n : Nat) (z f : Nat → Bool) : HoldsB ((w.alloc (.cells (barr n z) t)).setRow w.heap.size (barr n f)) w.heap.size t n f :=
  HoldsB.setRow (f := z) (heap_alloc_new w _) f
theorem HoldsB.new (w : World) (t : TypeId) (n : Nat) (f : Nat → Bool) : HoldsB (w.alloc (.cells (barr n f) t)) w.heap.size t n f := heap_alloc_new w _
theorem laid_size (w : World) (o : Obj) (g : Nat) (cs : Array Value) : ((w.alloc o).setRow g cs).heap.size = w.heap.size + 1 := by rw [size_setRow]; exact World.size_alloc _ _

theorem below_setRow {B : Nat} {a w : World} (h : Below B a w) {g : Nat} (hg : B ≤ g) (cs : Array Value) : Below B a (w.setRow g cs) :=
  h.trans ⟨rfl, rfl, rfl, by simp, fun k hk => setRow_other w g k cs (by omega)⟩

end Go.Proofs.YtflaadnlmcgfoaaR
