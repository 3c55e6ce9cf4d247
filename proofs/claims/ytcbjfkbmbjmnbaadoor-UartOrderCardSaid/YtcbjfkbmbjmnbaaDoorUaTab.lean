/- Layer 6's laws: what the condition on the table gives; the witness's world meets it. -/
import Derived.Test.YtcbjfkbmbjmnbaaDoorRows
import Derived.Test.YtcbjfkbmbjmnbaaDoorUf
import Derived.ProofKit
import Derived.LaidMore
import Derived.OpenShut
import Derived.Stop.Joined
import Derived.MakeChecks
namespace Go.Proofs.YtcbjfkbmbjmnbaaDoor
open Go.ChangeShapes Go.WideShapes Go.ChangeAt Go.RowKit
set_option linter.unusedVariables false

/-- The one listed variable. -/
abbrev laidT : List (String × DataW Unit) := [("mezzanine/uart.kept", Rows.laid_mezzanine_uart_kept)]
theorem gKept : Tryd.prog.globalNamed "mezzanine/uart.kept" = some 0 := by kernel_rfl
theorem tKept : (Tryd.prog.globals[0]?).map (·.type) = some 50 := by kernel_rfl
theorem door_met (os : Os) (args : Array Value) : laidMetH Tryd.prog laidT ((World.doorLaid Tryd.prog 400 os).forCall (fun _ _ => 0) ⟨#[], args, []⟩).memory :=
  laidMetH_of_parts3 (fuel := 8) (laidMet_of_run' 8 (by kernel_rfl) (by kernel_rfl)) (by kernel_rfl) (by kernel_rfl)

section
variable {H : Type} {enc : TypeId × Value → H} {w : World} {base : Nat} {spare : Nat → Bool} {held : Bool}
theorem byte_cell {n : Nat} {cs : List Value} {x : DataW H × List MemPlace} {a : Int} (hl : cs.length = 1) (h : DataW.trod enc Tryd.prog w base spare held n 5 cs = some x) (hx : x.1 = .lit (.int .u8 a)) : cs = [.int .u8 a] := by
  match cs, hl with
  | [v], _ =>
    obtain ⟨m, e, y, _⟩ := DataW.trod_int Tryd.underlying5 h
    simp at e
    subst e y
    simp at hx
    subst hx
    rfl
end
theorem list10 {l : List Value} {a : Nat → Value} (hl : l.length = 10) (h : ∀ i, i < 10 → (l.drop i).take 1 = [a i]) : l = (List.range 10).map a := by
  apply List.ext_getElem?
  intro i
  by_cases hi : i < 10
  · have h1 := h i hi
    have h2 : l[i]? = some (a i) := by
      have := congrArg (fun l => l[0]?) h1
      simpa [List.getElem?_take, List.getElem?_drop] using this
    rw [h2]; simp [hi]
  · rw [List.getElem?_eq_none (by omega), List.getElem?_eq_none (by simp; omega)]
/-- What the condition gives. -/
theorem tab_of_laid {W : World} (h : laidMetH Tryd.prog laidT W) : Tab W := by
  rw [MakeChecks.laidMetH_plain _ _ _ (by kernel_rfl)] at h
  obtain ⟨ps, ⟨g0, t0, cs0, f0, p0, q0, hg0, ht0, hv0, hd0, _⟩, _, _⟩ := h
  obtain rfl := Option.some.inj (gKept.symm.trans hg0)
  obtain rfl := Option.some.inj (tKept.symm.trans ht0)
  obtain ⟨xs, m, _, hx, hl, hn, hel⟩ := DataW.trod_array Tryd.underlying50 hd0
  have c5 : Tryd.prog.cellsOf 5 = 1 := by kernel_rfl
  have c50 : Tryd.prog.cellsOf 50 = 10 := by kernel_rfl
  rw [c50] at hl
  rw [c5] at hel
  simp only [Prod.mk.injEq] at hx
  match xs, hn with
  | [x0, x1, x2, x3, x4, x5, x6, x7, x8, x9], _ =>
    have hx1 := hx.1
    unfold Rows.laid_mezzanine_uart_kept at hx1
    simp only [List.map_cons, List.map_nil, DataW.agg.injEq, List.cons.injEq] at hx1
    obtain ⟨e0, e1, e2, e3, e4, e5, e6, e7, e8, e9, _⟩ := hx1
    have hcs : cs0.toList = (List.range 10).map fun i => keptQ.getD i undef := list10 hl fun i hi => by
      have hk : ((cs0.toList.drop i).take 1).length = 1 := by rw [List.length_take, List.length_drop, hl]; omega
      have hc : i = 0 ∨ i = 1 ∨ i = 2 ∨ i = 3 ∨ i = 4 ∨ i = 5 ∨ i = 6 ∨ i = 7 ∨ i = 8 ∨ i = 9 := by omega
      rcases hc with rfl | rfl | rfl | rfl | rfl | rfl | rfl | rfl | rfl | rfl
      · exact byte_cell hk (hel 0 (by decide)) e0.symm
      · exact byte_cell hk (hel 1 (by decide)) e1.symm
      · exact byte_cell hk (hel 2 (by decide)) e2.symm
      · exact byte_cell hk (hel 3 (by decide)) e3.symm
      · exact byte_cell hk (hel 4 (by decide)) e4.symm
      · exact byte_cell hk (hel 5 (by decide)) e5.symm
      · exact byte_cell hk (hel 6 (by decide)) e6.symm
      · exact byte_cell hk (hel 7 (by decide)) e7.symm
      · exact byte_cell hk (hel 8 (by decide)) e8.symm
      · exact byte_cell hk (hel 9 (by decide)) e9.symm
    simp only [World.var?, gKept, Option.bind_some] at hv0
    split at hv0
    · rename_i c t fr hb
      have hc := Option.some.inj hv0
      have hq : cs0 = keptQ := Array.ext' (by rw [hcs]; rfl)
      exact ⟨t, fr, by rw [hb, hc, hq]⟩
    · cases hv0

end Go.Proofs.YtcbjfkbmbjmnbaaDoor
