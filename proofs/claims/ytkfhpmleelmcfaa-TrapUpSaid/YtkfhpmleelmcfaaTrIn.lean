/- A trap that is handed in, opened; a trap in a block. Prepared ahead (layer 14). -/
import Derived.Test.YtkfhpmleelmcfaaLnIn
namespace Go.Proofs.Ytkfhpmleelmcfaa
open Go.Joins Go.ChangeShapes Go.WideShapes Go.RowKit Go.Deep
set_option linter.unusedVariables false
set_option maxRecDepth 100000

/-- A trap's state. -/
structure TS where
  is : Bool
  c : Int
  tv : Int
  tv2 : Int
  ti : Int
  g : Bool
structure TOk (s : TS) : Prop where
  c : In64 s.c
  tv : In64 s.tv
  tv2 : In64 s.tv2
  ti : In64 s.ti
abbrev tsC (s : TS) : Array Value := #[.bool s.is, .int .u64 s.c, .int .u64 s.tv, .int .u64 s.tv2, .int .u64 s.ti, .bool s.g]
abbrev tsV (s : TS) : Value := .agg (tsC s)
def TsB (w : World) (b : Nat) (s : TS) : Prop := w.heap[b]? = some (.cells (tsC s) 27 (0, 0))
theorem TsB.lt {w : World} {b : Nat} {s : TS} (h : TsB w b s) : b < w.heap.size := (Array.getElem?_eq_some_iff.1 h).1
theorem TsB.below {w w' : World} {b : Nat} {s : TS} (h : TsB w b s) (o : Below w.heap.size w w') : TsB w' b s := (o.block b h.lt).trans h
theorem Tch.ts {b j : Nat} {w w' : World} {s : TS} (h : Tch b w w') (hj : TsB w j s) (hn : ¬ j = b) : TsB w' j s := (h.oth j hn).trans hj
theorem TsB.cell {w : World} {b : Nat} {s : TS} (h : TsB w b s) (k : Nat) (v : Value) (hv : (tsC s)[k]? = some v) : w.cell? ⟨b, k, none⟩ = some v := by
  rw [cell_of_row w b k _ _ _ h]; exact hv
theorem fa_ts (b i : Nat) (hi : i < 6) (w : World) : (Instr.fieldAt 27 (.pointer (some ⟨b, 0, none⟩)) i).run Try.prog w = .ok (.pointer (some ⟨b, i, none⟩)) w :=
  match i, hi with
  | 0, _ => by kernel_rfl
  | 1, _ => by kernel_rfl
  | 2, _ => by kernel_rfl
  | 3, _ => by kernel_rfl
  | 4, _ => by kernel_rfl
  | 5, _ => by kernel_rfl
  | i + 6, h => absurd h (by omega)
theorem size_ts (s : TS) : (Try.prog.info? 27).map (·.size) = some (tsC s).size := by kernel_rfl
theorem one_ts (s : TS) : (tsC s).all (·.oneCell') = true := by simp [Value.oneCell']
section
variable {H : Type} {enc : TypeId × Value → H} {w : World} {base : Nat} {spare : Nat → Bool} {held : Bool}
theorem open_trap {r : Reach} {b0 : Nat} {v : Value} {d : DataW H} {p : List MemPlace} (hv : Value.okWide Try.prog w r b0 27 v) (h : DataW.Trod enc Try.prog w base spare held 27 v d p) :
    ∃ s : TS, v = tsV s ∧ TOk s := by
  obtain ⟨v0, v1, v2, v3, v4, v5, y0, y1, y2, y3, y4, y5, n, rfl, t0, t1, t2, t3, t4, t5⟩ := open_agg6 Try.underlying27 (by kernel_rfl) (by kernel_rfl) hv h
  obtain ⟨a0, e0, _⟩ := DataW.trod_bool Try.underlying4 t0
  obtain ⟨a1, e1, _, w1⟩ := DataW.trod_int Try.underlying22 t1
  obtain ⟨a2, e2, _, w2⟩ := DataW.trod_int Try.underlying22 t2
  obtain ⟨a3, e3, _, w3⟩ := DataW.trod_int Try.underlying22 t3
  obtain ⟨a4, e4, _, w4⟩ := DataW.trod_int Try.underlying22 t4
  obtain ⟨a5, e5, _⟩ := DataW.trod_bool Try.underlying4 t5
  simp only [List.cons.injEq, and_true] at e0 e1 e2 e3 e4 e5
  subst e0 e1 e2 e3 e4 e5
  exact ⟨⟨a0, a1, a2, a3, a4, a5⟩, rfl, of_wf w1, of_wf w2, of_wf w3, of_wf w4⟩
end
end Go.Proofs.Ytkfhpmleelmcfaa
