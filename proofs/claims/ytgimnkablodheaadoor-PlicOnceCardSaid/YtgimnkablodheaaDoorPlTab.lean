/- Layer 5's laws: what the condition on the table gives; the witness's world meets it. -/
import Derived.Test.YtgimnkablodheaaDoorRows
import Derived.Test.YtgimnkablodheaaDoorPlU
import Derived.ProofKit
import Derived.LaidMore
import Derived.OpenShut
import Derived.Stop.Joined
import Derived.MakeChecks
namespace Go.Proofs.YtgimnkablodheaaDoor
open Go.ChangeShapes Go.WideShapes Go.ChangeAt Go.RowKit
set_option linter.unusedVariables false

/-- The one listed variable. -/
abbrev laidT : List (String × DataW Unit) := [("mezzanine/plic.groups", Rows.laid_mezzanine_plic_groups)]
theorem gGroups : Tryd.prog.globalNamed "mezzanine/plic.groups" = some 0 := by kernel_rfl
theorem tGroups : (Tryd.prog.globals[0]?).map (·.type) = some 69 := by kernel_rfl
theorem door_met (os : Os) (args : Array Value) : laidMetH Tryd.prog laidT ((World.doorLaid Tryd.prog 400 os).forCall (fun _ _ => 0) ⟨#[], args, []⟩).memory :=
  laidMetH_of_parts3 (fuel := 8) (laidMet_of_run' 8 (by kernel_rfl) (by kernel_rfl)) (by kernel_rfl) (by kernel_rfl)

section
variable {H : Type} {enc : TypeId × Value → H} {w : World} {base : Nat} {spare : Nat → Bool} {held : Bool}
/-- A row of the table, read as its four numbers, has these cells. -/
theorem group_cells {n : Nat} {cs : List Value} {x : DataW H × List MemPlace} {a b c d : Int}
    (h : DataW.trod enc Tryd.prog w base spare held n 68 cs = some x) (hx : x.1 = .agg [.lit (.int .i64 a), .lit (.int .u64 b), .lit (.int .u64 c), .lit (.int .u64 d)]) :
    cs = [.int .i64 a, .int .u64 b, .int .u64 c, .int .u64 d] := by
  obtain ⟨xs, m, _, rfl, hl, hlen, hf⟩ := DataW.trod_struct Tryd.underlying68 h
  have hC : Tryd.prog.cellsOf 68 = 4 := by kernel_rfl
  rw [hC] at hl
  match cs, hl with
  | [v0, v1, v2, v3], _ =>
    have t0 := hf 0 _ rfl
    have t1 := hf 1 _ rfl
    have t2 := hf 2 _ rfl
    have t3 := hf 3 _ rfl
    match xs, hlen with
    | [x0, x1, x2, x3], _ =>
      obtain ⟨n0, e0, y0, _⟩ := DataW.trod_int Tryd.underlying59 (show DataW.trod enc Tryd.prog w base spare held m 59 [v0] = some x0 from t0)
      obtain ⟨n1, e1, y1, _⟩ := DataW.trod_int Tryd.underlying30 (show DataW.trod enc Tryd.prog w base spare held m 30 [v1] = some x1 from t1)
      obtain ⟨n2, e2, y2, _⟩ := DataW.trod_int Tryd.underlying30 (show DataW.trod enc Tryd.prog w base spare held m 30 [v2] = some x2 from t2)
      obtain ⟨n3, e3, y3, _⟩ := DataW.trod_int Tryd.underlying30 (show DataW.trod enc Tryd.prog w base spare held m 30 [v3] = some x3 from t3)
      simp at e0 e1 e2 e3
      subst e0 e1 e2 e3 y0 y1 y2 y3
      simp at hx
      obtain ⟨rfl, rfl, rfl, rfl⟩ := hx
      rfl
end
theorem list20 {l a b c d e : List Value} (hl : l.length = 20) (h0 : l.take 4 = a) (h1 : (l.drop 4).take 4 = b) (h2 : (l.drop 8).take 4 = c) (h3 : (l.drop 12).take 4 = d) (h4 : (l.drop 16).take 4 = e) : l = a ++ b ++ c ++ d ++ e := by
  subst h0 h1 h2 h3 h4
  match l, hl with
  | [_, _, _, _, _, _, _, _, _, _, _, _, _, _, _, _, _, _, _, _], _ => rfl
/-- What the condition gives. -/
theorem tab_of_laid {W : World} (h : laidMetH Tryd.prog laidT W) : Tab W := by
  rw [MakeChecks.laidMetH_plain _ _ _ (by kernel_rfl)] at h
  obtain ⟨ps, ⟨g0, t0, cs0, f0, p0, q0, hg0, ht0, hv0, hd0, _⟩, _, _⟩ := h
  obtain rfl := Option.some.inj (gGroups.symm.trans hg0)
  obtain rfl := Option.some.inj (tGroups.symm.trans ht0)
  obtain ⟨xs, m, _, hx, hl, hn, hel⟩ := DataW.trod_array Tryd.underlying69 hd0
  have c68 : Tryd.prog.cellsOf 68 = 4 := by kernel_rfl
  have c69 : Tryd.prog.cellsOf 69 = 20 := by kernel_rfl
  rw [c69] at hl
  rw [c68] at hel
  simp only [Prod.mk.injEq] at hx
  match xs, hn with
  | [x0, x1, x2, x3, x4], _ =>
    have hx1 := hx.1
    unfold Rows.laid_mezzanine_plic_groups at hx1
    simp only [List.map_cons, List.map_nil, DataW.agg.injEq, List.cons.injEq] at hx1
    obtain ⟨e0, e1, e2, e3, e4, _⟩ := hx1
    have k0 := group_cells (hel 0 (by decide)) e0.symm
    have k1 := group_cells (hel 1 (by decide)) e1.symm
    have k2 := group_cells (hel 2 (by decide)) e2.symm
    have k3 := group_cells (hel 3 (by decide)) e3.symm
    have k4 := group_cells (hel 4 (by decide)) e4.symm
    have hcs := list20 hl k0 k1 k2 k3 k4
    simp only [World.var?, gGroups, Option.bind_some] at hv0
    split at hv0
    · rename_i c t fr hb
      have hc := Option.some.inj hv0
      have hq : cs0 = tabQ := Array.ext' (by rw [hcs]; rfl)
      exact ⟨t, fr, by rw [hb, hc, hq]⟩
    · cases hv0

end Go.Proofs.YtgimnkablodheaaDoor
