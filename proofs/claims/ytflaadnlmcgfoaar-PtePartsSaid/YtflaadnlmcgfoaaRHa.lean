/- A hart by value: 77 cells, told by a state. -/
import Derived.Test.YtflaadnlmcgfoaaRArr
import Derived.Test.YtflaadnlmcgfoaaRBv
import Derived.Test.YtflaadnlmcgfoaaRRows
import Derived.Lib.Hide
import Derived.Below
import Derived.WalkLawsBesides
namespace Go.Proofs.YtflaadnlmcgfoaaR
open Go.RowKit
set_option linter.unusedVariables false
set_option maxRecDepth 100000

/-- A hart's state: its numbers by their places, and its three bools. -/
structure HS where
  n : Nat → Int
  v : Bool
  wait : Bool
  held : Bool

def hCell (t : HS) (i : Nat) : Value :=
  if i = 33 then .int .u8 (t.n 33) else if i = 34 then .bool t.v else if i = 35 then .bool t.wait else if i = 36 then .bool t.held else .int .u64 (t.n i)

/-- All numbers are in their kinds. -/
structure HOk (t : HS) : Prop where
  n : ∀ i, In64 (t.n i)
  p : t.n 33 < 256

abbrev hartV (t : HS) : Value := .agg (varr 77 (hCell t))

theorem hCell_one (t : HS) (i : Nat) : (hCell t i).oneCell' = true := by
  unfold hCell
  by_cases h1 : i = 33
  · rw [if_pos h1]; rfl
  by_cases h2 : i = 34
  · rw [if_neg h1, if_pos h2]; rfl
  by_cases h3 : i = 35
  · rw [if_neg h1, if_neg h2, if_pos h3]; rfl
  by_cases h4 : i = 36
  · rw [if_neg h1, if_neg h2, if_neg h3, if_pos h4]; rfl
  rw [if_neg h1, if_neg h2, if_neg h3, if_neg h4]; rfl

theorem hCell_u {t : HS} {i : Nat} (h : i < 33 ∨ 36 < i) : hCell t i = .int .u64 (t.n i) := by
  unfold hCell; rw [if_neg (by omega), if_neg (by omega), if_neg (by omega), if_neg (by omega)]

/-- A hart in a block of its own. -/
def HartB (w : World) (b : Nat) (t : HS) : Prop := w.heap[b]? = some (.cells (varr 77 (hCell t)) 0 (0, 0))

theorem HartB.lt {w : World} {b : Nat} {t : HS} (h : HartB w b t) : b < w.heap.size := (Array.getElem?_eq_some_iff.1 h).1

theorem HartB.below {w w' : World} {b : Nat} {t : HS} (h : HartB w b t) (o : Below w.heap.size w w') : HartB w' b t := (o.block b h.lt).trans h

theorem HartB.cell {w : World} {b : Nat} {t : HS} (h : HartB w b t) {i : Nat} (hi : i < 77) : w.cell? ⟨b, i, none⟩ = some (hCell t i) := by
  rw [cell_of_row w b _ _ _ _ h, varr_get _ _ _ hi]

theorem HartB.u {w : World} {b : Nat} {t : HS} (h : HartB w b t) (i : Nat) (hi : i < 77) (hu : i < 33 ∨ 36 < i) : w.cell? ⟨b, i, none⟩ = some (.int .u64 (t.n i)) := by
  rw [h.cell hi, hCell_u hu]

theorem HartB.p {w : World} {b : Nat} {t : HS} (h : HartB w b t) : w.cell? ⟨b, 33, none⟩ = some (.int .u8 (t.n 33)) := by rw [h.cell (by omega)]; rfl

theorem HartB.v {w : World} {b : Nat} {t : HS} (h : HartB w b t) : w.cell? ⟨b, 34, none⟩ = some (.bool t.v) := by rw [h.cell (by omega)]; rfl

theorem HartB.free {w : World} {b : Nat} {t : HS} (h : HartB w b t) (k : Nat) : w.frozen? ⟨b, k, none⟩ = false := frozen_of_row w b k _ _ h

theorem hRow_u (t : HS) (i : Nat) (hi : i < 77) (hu : i < 33 ∨ 36 < i) : (varr 77 (hCell t))[i]? = some (.int .u64 (t.n i)) := by rw [varr_get _ _ _ hi, hCell_u hu]

theorem hRow_p (t : HS) : (varr 77 (hCell t))[33]? = some (.int .u8 (t.n 33)) := by rw [varr_get _ _ _ (by omega)]; rfl

theorem hRow_v (t : HS) : (varr 77 (hCell t))[34]? = some (.bool t.v) := by rw [varr_get _ _ _ (by omega)]; rfl

/-- Bit k of a word. -/
def bitZ (x : Int) (k : Nat) : Bool := (V x).getLsbD k

theorem bit_and1 (b : BitVec 64) (k : Nat) : (U (b >>> k &&& 1#64) == 1) = b.getLsbD k := by
  have h : b >>> k &&& 1#64 = if b.getLsbD k then 1#64 else 0#64 := by
    apply ext64
    intro i hi
    rw [BitVec.getLsbD_and, BitVec.getLsbD_ushiftRight]
    by_cases c : i = 0
    · subst c
      cases e : b.getLsbD k <;> simp [e]
    · have : (1#64).getLsbD i = false := by
        rw [BitVec.getLsbD_one]; simp; omega
      rw [this, Bool.and_false]
      cases b.getLsbD k
      · simp
      · rw [if_pos rfl, this]
  rw [h]
  cases b.getLsbD k <;> rfl

/-- 'x >> k & 1 == 1' as the walk spells it. -/
theorem has_bit {x : Int} (hx : In64 x) (k : Nat) : (bits .and .u64 (x / 2 ^ k) 1 == 1) = bitZ x k := by
  rw [bits_and, shr_eq hx, V_U, V_one]
  exact bit_and1 (V x) k

/-- 'x & (1 << k) == 0' as the walk spells it. -/
theorem and_bit {x : Int} (k : Nat) (hk : k < 64) : (bits .and .u64 x (2 ^ k) == 0) = !bitZ x k := by
  rw [bits_and, V_pow]
  unfold bitZ
  generalize V x = b
  have h : b &&& BitVec.twoPow 64 k = if b.getLsbD k then BitVec.twoPow 64 k else 0#64 := by
    rw [BitVec.and_twoPow]
  rw [h]
  cases b.getLsbD k
  · rfl
  · rw [if_pos rfl]
    have : ¬ U (BitVec.twoPow 64 k) = 0 := by
      unfold U
      rw [BitVec.toNat_twoPow_of_lt hk]
      have := Nat.two_pow_pos k
      omega
    simpa using this

section

variable {P : Program} {ops : Array Oper} {rest : List Oper} {o : Oper} {a : Act} {w : World} {Q : Exit → Act → World → Prop}

/-- A guarded load of a whole row. -/
theorem wpList_load_rowG (hw : Region.wanted o (yielded ops a.tmps) = true) (ty : TypeId) (x : Operand) (ho : o.op = .load ty x)
    (g : Nat) (hx : a.eval x = .pointer (some ⟨g, 0, none⟩)) (t : TypeId) (cs : Array Value) (fr : Nat × Nat) (d : TypeDesc) (hg : w.heap[g]? = some (.cells cs t fr))
    (hu : P.underlying ty = some d) (hd : (match d with | .struct _ | .array _ _ => true | _ => false) = true) (hi : (P.info? ty).map (·.size) = some cs.size)
    (h : wpList P ops Q rest (a.put o.dst (.agg cs)) w) : wpList P ops Q (o :: rest) a w := by
  simp only [wpList, hw, if_true]
  exact .inl (wp_load_row ty x ho g hx t cs fr d hg hu hd hi h)

end

end Go.Proofs.YtflaadnlmcgfoaaR
