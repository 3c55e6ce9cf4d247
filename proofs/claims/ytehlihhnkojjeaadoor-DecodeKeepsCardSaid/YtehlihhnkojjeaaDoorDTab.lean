/- Layer 9's laws: what the condition on the table of forms gives; the witness's world meets it. -/
import Derived.Test.YtehlihhnkojjeaaDoorRows
import Derived.Test.YtehlihhnkojjeaaDoorDcB
import Derived.ProofKit
import Derived.LaidMore
import Derived.OpenShut
import Derived.Stop.Joined
import Derived.MakeChecks
namespace Go.Proofs.YtehlihhnkojjeaaDoor
open Go.ChangeShapes Go.WideShapes Go.ChangeAt Go.RowKit
set_option linter.unusedVariables false
set_option maxRecDepth 100000

theorem wf_u8 {x : Int} (h : (Lit.int .u8 x).wf = true) : 0 ≤ x ∧ x < 256 := by
  have h2 := h
  simp [Lit.wf, IntKind.min, IntKind.max, IntKind.signed, IntKind.bits] at h2
  omega
/-- The one listed variable. -/
abbrev laidT : List (String × DataW Unit) := [("mezzanine/decode.forms", Rows.laid_mezzanine_decode_forms)]
theorem gForms : Tryd.prog.globalNamed "mezzanine/decode.forms" = some 0 := by kernel_rfl
theorem tForms : (Tryd.prog.globals[0]?).map (·.type) = some 62 := by kernel_rfl
theorem door_met (os : Os) (args : Array Value) : laidMetH Tryd.prog laidT ((World.doorLaid Tryd.prog 400 os).forCall (fun _ _ => 0) ⟨#[], args, []⟩).memory :=
  laidMetH_of_parts3 (fuel := 8) (laidMet_of_run' 8 (by kernel_rfl) (by kernel_rfl)) (by kernel_rfl) (by kernel_rfl)

section
variable {H : Type} {enc : TypeId × Value → H} {w : World} {base : Nat} {spare : Nat → Bool} {held : Bool}
theorem form_cells {n : Nat} {cs : List Value} {x : DataW H × List MemPlace} {m i : Int} {p q r s u : Bool}
    (h : DataW.trod enc Tryd.prog w base spare held n 61 cs = some x) (hx : x.1 = .agg [.lit (.int .u32 m), .lit (.bool p), .lit (.bool q), .lit (.bool r), .lit (.int .i64 i), .lit (.bool s), .lit (.bool u)]) :
    cs = [.int .u32 m, .bool p, .bool q, .bool r, .int .i64 i, .bool s, .bool u] := by
  obtain ⟨xs, m, _, rfl, hl, hlen, hf⟩ := DataW.trod_struct Tryd.underlying61 h
  have hC : Tryd.prog.cellsOf 61 = 7 := by kernel_rfl
  rw [hC] at hl
  match cs, hl with
  | [v0, v1, v2, v3, v4, v5, v6], _ =>
    have t0 := hf 0 _ rfl
    have t1 := hf 1 _ rfl
    have t2 := hf 2 _ rfl
    have t3 := hf 3 _ rfl
    have t4 := hf 4 _ rfl
    have t5 := hf 5 _ rfl
    have t6 := hf 6 _ rfl
    match xs, hlen with
    | [x0, x1, x2, x3, x4, x5, x6], _ =>
      obtain ⟨n0, e0, y0, _⟩ := DataW.trod_int Tryd.underlying22 (show DataW.trod enc Tryd.prog w base spare held m 22 [v0] = some x0 from t0)
      obtain ⟨n1, e1, y1⟩ := DataW.trod_bool Tryd.underlying4 (show DataW.trod enc Tryd.prog w base spare held m 4 [v1] = some x1 from t1)
      obtain ⟨n2, e2, y2⟩ := DataW.trod_bool Tryd.underlying4 (show DataW.trod enc Tryd.prog w base spare held m 4 [v2] = some x2 from t2)
      obtain ⟨n3, e3, y3⟩ := DataW.trod_bool Tryd.underlying4 (show DataW.trod enc Tryd.prog w base spare held m 4 [v3] = some x3 from t3)
      obtain ⟨n4, e4, y4, _⟩ := DataW.trod_int Tryd.underlying3 (show DataW.trod enc Tryd.prog w base spare held m 3 [v4] = some x4 from t4)
      obtain ⟨n5, e5, y5⟩ := DataW.trod_bool Tryd.underlying4 (show DataW.trod enc Tryd.prog w base spare held m 4 [v5] = some x5 from t5)
      obtain ⟨n6, e6, y6⟩ := DataW.trod_bool Tryd.underlying4 (show DataW.trod enc Tryd.prog w base spare held m 4 [v6] = some x6 from t6)
      simp only [List.cons.injEq, and_true] at e0 e1 e2 e3 e4 e5 e6
      subst e0 e1 e2 e3 e4 e5 e6 y0 y1 y2 y3 y4 y5 y6
      simp at hx
      obtain ⟨rfl, rfl, rfl, rfl, rfl, rfl, rfl⟩ := hx
      rfl
end
theorem list105 {l r0 r1 r2 r3 r4 r5 r6 r7 r8 r9 r10 r11 r12 r13 r14 : List Value} (hl : l.length = 105) (h0 : (l.drop 0).take 7 = r0) (h1 : (l.drop 7).take 7 = r1) (h2 : (l.drop 14).take 7 = r2) (h3 : (l.drop 21).take 7 = r3) (h4 : (l.drop 28).take 7 = r4) (h5 : (l.drop 35).take 7 = r5) (h6 : (l.drop 42).take 7 = r6) (h7 : (l.drop 49).take 7 = r7) (h8 : (l.drop 56).take 7 = r8) (h9 : (l.drop 63).take 7 = r9) (h10 : (l.drop 70).take 7 = r10) (h11 : (l.drop 77).take 7 = r11) (h12 : (l.drop 84).take 7 = r12) (h13 : (l.drop 91).take 7 = r13) (h14 : (l.drop 98).take 7 = r14) : l = r0 ++ (r1 ++ (r2 ++ (r3 ++ (r4 ++ (r5 ++ (r6 ++ (r7 ++ (r8 ++ (r9 ++ (r10 ++ (r11 ++ (r12 ++ (r13 ++ (r14 ++ [])))))))))))))) := by
  have s : ∀ n, l.drop n = (l.drop n).take 7 ++ l.drop (n + 7) := fun n => by rw [← List.drop_drop, List.take_append_drop]
  have z : l.drop 105 = [] := List.drop_eq_nil_of_le (by omega)
  subst h0 h1 h2 h3 h4 h5 h6 h7 h8 h9 h10 h11 h12 h13 h14
  have e0 : l = l.drop 0 := rfl
  have s0 := s 0
  have s7 := s 7
  have s14 := s 14
  have s21 := s 21
  have s28 := s 28
  have s35 := s 35
  have s42 := s 42
  have s49 := s 49
  have s56 := s 56
  have s63 := s 63
  have s70 := s 70
  have s77 := s 77
  have s84 := s 84
  have s91 := s 91
  have s98 := s 98
  rw [s98, z] at s91
  rw [s91] at s84
  rw [s84] at s77
  rw [s77] at s70
  rw [s70] at s63
  rw [s63] at s56
  rw [s56] at s49
  rw [s49] at s42
  rw [s42] at s35
  rw [s35] at s28
  rw [s28] at s21
  rw [s21] at s14
  rw [s14] at s7
  rw [s7] at s0
  exact s0
/-- What the condition gives. -/
theorem tab_of_laid {W : World} (h : laidMetH Tryd.prog laidT W) : Tab W := by
  rw [MakeChecks.laidMetH_plain _ _ _ (by kernel_rfl)] at h
  obtain ⟨ps, ⟨g0, t0, cs0, f0, p0, q0, hg0, ht0, hv0, hd0, _⟩, _, _⟩ := h
  obtain rfl := Option.some.inj (gForms.symm.trans hg0)
  obtain rfl := Option.some.inj (tForms.symm.trans ht0)
  obtain ⟨xs, m, _, hx, hl, hn, hel⟩ := DataW.trod_array Tryd.underlying62 hd0
  have c68 : Tryd.prog.cellsOf 61 = 7 := by kernel_rfl
  have c69 : Tryd.prog.cellsOf 62 = 105 := by kernel_rfl
  rw [c69] at hl
  rw [c68] at hel
  simp only [Prod.mk.injEq] at hx
  match xs, hn with
  | [x0, x1, x2, x3, x4, x5, x6, x7, x8, x9, x10, x11, x12, x13, x14], _ =>
    have hx1 := hx.1
    unfold Rows.laid_mezzanine_decode_forms at hx1
    simp only [List.map_cons, List.map_nil, DataW.agg.injEq, List.cons.injEq] at hx1
    obtain ⟨e0, e1, e2, e3, e4, e5, e6, e7, e8, e9, e10, e11, e12, e13, e14, _⟩ := hx1
    have k0 := form_cells (hel 0 (by decide)) e0.symm
    have k1 := form_cells (hel 1 (by decide)) e1.symm
    have k2 := form_cells (hel 2 (by decide)) e2.symm
    have k3 := form_cells (hel 3 (by decide)) e3.symm
    have k4 := form_cells (hel 4 (by decide)) e4.symm
    have k5 := form_cells (hel 5 (by decide)) e5.symm
    have k6 := form_cells (hel 6 (by decide)) e6.symm
    have k7 := form_cells (hel 7 (by decide)) e7.symm
    have k8 := form_cells (hel 8 (by decide)) e8.symm
    have k9 := form_cells (hel 9 (by decide)) e9.symm
    have k10 := form_cells (hel 10 (by decide)) e10.symm
    have k11 := form_cells (hel 11 (by decide)) e11.symm
    have k12 := form_cells (hel 12 (by decide)) e12.symm
    have k13 := form_cells (hel 13 (by decide)) e13.symm
    have k14 := form_cells (hel 14 (by decide)) e14.symm
    have hcs := list105 hl k0 k1 k2 k3 k4 k5 k6 k7 k8 k9 k10 k11 k12 k13 k14
    simp only [World.var?, gForms, Option.bind_some] at hv0
    split at hv0
    · rename_i c t fr hb
      have hc := Option.some.inj hv0
      have hq : cs0 = formsQ := Array.ext' (by rw [hcs]; rfl)
      exact ⟨t, fr, by rw [hb, hc, hq]⟩
    · cases hv0

end Go.Proofs.YtehlihhnkojjeaaDoor
