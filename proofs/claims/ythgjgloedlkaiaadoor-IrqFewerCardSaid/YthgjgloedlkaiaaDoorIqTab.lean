/- Layer 13's laws: what the condition on the table of the order gives; the witness's world meets it (written by gen_iqtab.py). -/
import Derived.Test.YthgjgloedlkaiaaDoorRows
import Derived.Test.YthgjgloedlkaiaaDoorIqF
import Derived.ProofKit
import Derived.LaidMore
import Derived.OpenShut
import Derived.Stop.Joined
import Derived.MakeChecks
namespace Go.Proofs.YthgjgloedlkaiaaDoor
open Go.ChangeShapes Go.WideShapes Go.ChangeAt Go.RowKit
set_option linter.unusedVariables false
set_option maxRecDepth 100000

theorem wf_u8 {x : Int} (h : (Lit.int .u8 x).wf = true) : 0 ≤ x ∧ x < 256 := by
  have h2 := h
  simp [Lit.wf, IntKind.min, IntKind.max, IntKind.signed, IntKind.bits] at h2
  omega
/-- The one listed variable. -/
abbrev laidT : List (String × DataW Unit) := [("mezzanine/irq.order", Rows.laid_mezzanine_irq_order)]
theorem gOrder : Tryd.prog.globalNamed "mezzanine/irq.order" = some 0 := by kernel_rfl
theorem tOrder : (Tryd.prog.globals[0]?).map (·.type) = some 50 := by kernel_rfl
theorem door_met (os : Os) (args : Array Value) : laidMetH Tryd.prog laidT ((World.doorLaid Tryd.prog 400 os).forCall (fun _ _ => 0) ⟨#[], args, []⟩).memory :=
  laidMetH_of_parts3 (fuel := 8) (laidMet_of_run' 8 (by kernel_rfl) (by kernel_rfl)) (by kernel_rfl) (by kernel_rfl)
section
variable {H : Type} {enc : TypeId × Value → H} {w : World} {base : Nat} {spare : Nat → Bool} {held : Bool}
theorem cell_u {m : Nat} {cs : List Value} {x : DataW H × List MemPlace} {v : Int} (h : DataW.trod enc Tryd.prog w base spare held m 22 cs = some x) (hx : x.1 = .lit (.int .u64 v)) : cs = [.int .u64 v] := by
  obtain ⟨k, e, y, _⟩ := DataW.trod_int Tryd.underlying22 h
  subst e y
  simp at hx
  subst hx
  rfl
end
theorem list10 {l r0 r1 r2 r3 r4 r5 r6 r7 r8 r9 : List Value} (hl : l.length = 10) (h0 : (l.drop 0).take 1 = r0) (h1 : (l.drop 1).take 1 = r1) (h2 : (l.drop 2).take 1 = r2) (h3 : (l.drop 3).take 1 = r3) (h4 : (l.drop 4).take 1 = r4) (h5 : (l.drop 5).take 1 = r5) (h6 : (l.drop 6).take 1 = r6) (h7 : (l.drop 7).take 1 = r7) (h8 : (l.drop 8).take 1 = r8) (h9 : (l.drop 9).take 1 = r9) : l = r0 ++ (r1 ++ (r2 ++ (r3 ++ (r4 ++ (r5 ++ (r6 ++ (r7 ++ (r8 ++ (r9 ++ []))))))))) := by
  have s : ∀ n, l.drop n = (l.drop n).take 1 ++ l.drop (n + 1) := fun n => by rw [← List.drop_drop, List.take_append_drop]
  have z : l.drop 10 = [] := List.drop_eq_nil_of_le (by omega)
  subst h0 h1 h2 h3 h4 h5 h6 h7 h8 h9
  have e0 : l = l.drop 0 := rfl
  have s0 := s 0
  have s1 := s 1
  have s2 := s 2
  have s3 := s 3
  have s4 := s 4
  have s5 := s 5
  have s6 := s 6
  have s7 := s 7
  have s8 := s 8
  have s9 := s 9
  rw [s9, z] at s8
  rw [s8] at s7
  rw [s7] at s6
  rw [s6] at s5
  rw [s5] at s4
  rw [s4] at s3
  rw [s3] at s2
  rw [s2] at s1
  rw [s1] at s0
  exact s0
/-- What the condition gives. -/
theorem tab_of_laid {W : World} (h : laidMetH Tryd.prog laidT W) : Tab W := by
  rw [MakeChecks.laidMetH_plain _ _ _ (by kernel_rfl)] at h
  obtain ⟨ps, ⟨g0, t0, cs0, f0, p0, q0, hg0, ht0, hv0, hd0, _⟩, _, _⟩ := h
  obtain rfl := Option.some.inj (gOrder.symm.trans hg0)
  obtain rfl := Option.some.inj (tOrder.symm.trans ht0)
  obtain ⟨xs, m, _, hx, hl, hn, hel⟩ := DataW.trod_array Tryd.underlying50 hd0
  have c68 : Tryd.prog.cellsOf 22 = 1 := by kernel_rfl
  have c69 : Tryd.prog.cellsOf 50 = 10 := by kernel_rfl
  rw [c69] at hl
  rw [c68] at hel
  simp only [Prod.mk.injEq] at hx
  match xs, hn with
  | [x0, x1, x2, x3, x4, x5, x6, x7, x8, x9], _ =>
    have hx1 := hx.1
    unfold Rows.laid_mezzanine_irq_order at hx1
    simp only [List.map_cons, List.map_nil, DataW.agg.injEq, List.cons.injEq] at hx1
    obtain ⟨e0, e1, e2, e3, e4, e5, e6, e7, e8, e9, _⟩ := hx1
    have k0 := cell_u (hel 0 (by decide)) e0.symm
    have k1 := cell_u (hel 1 (by decide)) e1.symm
    have k2 := cell_u (hel 2 (by decide)) e2.symm
    have k3 := cell_u (hel 3 (by decide)) e3.symm
    have k4 := cell_u (hel 4 (by decide)) e4.symm
    have k5 := cell_u (hel 5 (by decide)) e5.symm
    have k6 := cell_u (hel 6 (by decide)) e6.symm
    have k7 := cell_u (hel 7 (by decide)) e7.symm
    have k8 := cell_u (hel 8 (by decide)) e8.symm
    have k9 := cell_u (hel 9 (by decide)) e9.symm
    have hcs := list10 hl k0 k1 k2 k3 k4 k5 k6 k7 k8 k9
    simp only [World.var?, gOrder, Option.bind_some] at hv0
    split at hv0
    · rename_i c t fr hb
      have hc := Option.some.inj hv0
      have hq : cs0 = ordQ := Array.ext' (by rw [hcs]; rfl)
      exact ⟨t, fr, by rw [hb, hc, hq]⟩
    · cases hv0

end Go.Proofs.YthgjgloedlkaiaaDoor
