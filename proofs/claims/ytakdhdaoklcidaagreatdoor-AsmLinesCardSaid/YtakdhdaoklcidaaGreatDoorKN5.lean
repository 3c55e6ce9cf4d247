/- Joined: ATab -/
import Derived.Test.YtakdhdaoklcidaaGreatDoorKN4
import Derived.Test.YtakdhdaoklcidaaGreatDoorRows
import Derived.ProofKit
import Derived.LaidMore
import Derived.OpenShut
import Derived.Stop.Joined
import Derived.MakeChecks
import Derived.Lib.LaidTab
import Derived.Stop.LaidErr
import Derived.Shelf.Vars
import Derived.HandedShaped
import Derived.Lay
namespace Go.Proofs.YtakdhdaoklcidaaGreatDoor
open Go.ChangeShapes Go.WideShapes Go.ChangeAt Go.RowKit
set_option linter.unusedVariables false
set_option maxRecDepth 100000

/-- The listed variables. -/
abbrev laidT : List (String × DataW Unit) := Rows.asmPrintsRow.laid
theorem gForms : Tryz.prog.globalNamed "mezzanine/decode.forms" = some 0 := by kernel_rfl
theorem tForms : (Tryz.prog.globals[0]?).map (·.type) = some 97 := by kernel_rfl
theorem start_met (os : Os) (args : Array Value) : laidMetH Tryz.prog laidT ((World.laidAll Tryz.prog os laidT).forCall (fun _ _ => 0) ⟨#[], args, []⟩).memory := by
  rw [MakeChecks.laidMetH_plain _ _ _ (by kernel_rfl)]
  exact laidMet_laidAll _ (by kernel_rfl) (by kernel_rfl)
section
variable {H : Type} {enc : TypeId × Value → H} {w : World} {base : Nat} {spare : Nat → Bool} {held : Bool}
theorem form_cells {n : Nat} {cs : List Value} {x : DataW H × List MemPlace} {m i : Int} {p q r s u : Bool}
    (h : DataW.trod enc Tryz.prog w base spare held n 96 cs = some x) (hx : x.1 = .agg [.lit (.int .u32 m), .lit (.bool p), .lit (.bool q), .lit (.bool r), .lit (.int .i64 i), .lit (.bool s), .lit (.bool u)]) :
    cs = [.int .u32 m, .bool p, .bool q, .bool r, .int .i64 i, .bool s, .bool u] := by
  obtain ⟨xs, m, _, rfl, hl, hlen, hf⟩ := DataW.trod_struct Tryz.underlying96 h
  have hC : Tryz.prog.cellsOf 96 = 7 := by kernel_rfl
  rw [hC] at hl
  match cs, hl with
  | [v0, v1, v2, v3, v4, v5, v6], _ =>
    have t0 := hf 0 _ rfl
    have t1 := hf 1 _ rfl
    have t2 := hf 2 _ rfl
    have t3 := hf 3 _ rfl
    have t4 := hf 4 _ rfl
    have t5 := hf 5 _ rfl
    have t6 := hf 6 _ rfl
    match xs, hlen with
    | [x0, x1, x2, x3, x4, x5, x6], _ =>
      obtain ⟨n0, e0, y0, _⟩ := DataW.trod_int Tryz.underlying43 (show DataW.trod enc Tryz.prog w base spare held m 43 [v0] = some x0 from t0)
      obtain ⟨n1, e1, y1⟩ := DataW.trod_bool Tryz.underlying4 (show DataW.trod enc Tryz.prog w base spare held m 4 [v1] = some x1 from t1)
      obtain ⟨n2, e2, y2⟩ := DataW.trod_bool Tryz.underlying4 (show DataW.trod enc Tryz.prog w base spare held m 4 [v2] = some x2 from t2)
      obtain ⟨n3, e3, y3⟩ := DataW.trod_bool Tryz.underlying4 (show DataW.trod enc Tryz.prog w base spare held m 4 [v3] = some x3 from t3)
      obtain ⟨n4, e4, y4, _⟩ := DataW.trod_int Tryz.underlying3 (show DataW.trod enc Tryz.prog w base spare held m 3 [v4] = some x4 from t4)
      obtain ⟨n5, e5, y5⟩ := DataW.trod_bool Tryz.underlying4 (show DataW.trod enc Tryz.prog w base spare held m 4 [v5] = some x5 from t5)
      obtain ⟨n6, e6, y6⟩ := DataW.trod_bool Tryz.underlying4 (show DataW.trod enc Tryz.prog w base spare held m 4 [v6] = some x6 from t6)
      simp only [List.cons.injEq, and_true] at e0 e1 e2 e3 e4 e5 e6
      subst e0 e1 e2 e3 e4 e5 e6 y0 y1 y2 y3 y4 y5 y6
      simp at hx
      obtain ⟨rfl, rfl, rfl, rfl, rfl, rfl, rfl⟩ := hx
      rfl
end
theorem list105 {l r0 r1 r2 r3 r4 r5 r6 r7 r8 r9 r10 r11 r12 r13 r14 : List Value} (hl : l.length = 105) (h0 : (l.drop 0).take 7 = r0) (h1 : (l.drop 7).take 7 = r1) (h2 : (l.drop 14).take 7 = r2) (h3 : (l.drop 21).take 7 = r3) (h4 : (l.drop 28).take 7 = r4) (h5 : (l.drop 35).take 7 = r5) (h6 : (l.drop 42).take 7 = r6) (h7 : (l.drop 49).take 7 = r7) (h8 : (l.drop 56).take 7 = r8) (h9 : (l.drop 63).take 7 = r9) (h10 : (l.drop 70).take 7 = r10) (h11 : (l.drop 77).take 7 = r11) (h12 : (l.drop 84).take 7 = r12) (h13 : (l.drop 91).take 7 = r13) (h14 : (l.drop 98).take 7 = r14) : l = r0 ++ (r1 ++ (r2 ++ (r3 ++ (r4 ++ (r5 ++ (r6 ++ (r7 ++ (r8 ++ (r9 ++ (r10 ++ (r11 ++ (r12 ++ (r13 ++ (r14 ++ [])))))))))))))) := by
  have s : ∀ n, l.drop n = (l.drop n).take 7 ++ l.drop (n + 7) := fun n => by rw [← List.drop_drop, List.take_append_drop]
  have z : l.drop 105 = [] := List.drop_eq_nil_of_le (by omega)
  subst h0 h1 h2 h3 h4 h5 h6 h7 h8 h9 h10 h11 h12 h13 h14
  have e0 : l = l.drop 0 := rfl
  have s0 := s 0
  have s7 := s 7
  have s14 := s 14
  have s21 := s 21
  have s28 := s 28
  have s35 := s 35
  have s42 := s 42
  have s49 := s 49
  have s56 := s 56
  have s63 := s 63
  have s70 := s 70
  have s77 := s 77
  have s84 := s 84
  have s91 := s 91
  have s98 := s 98
  rw [s98, z] at s91
  rw [s91] at s84
  rw [s84] at s77
  rw [s77] at s70
  rw [s70] at s63
  rw [s63] at s56
  rw [s56] at s49
  rw [s49] at s42
  rw [s42] at s35
  rw [s35] at s28
  rw [s28] at s21
  rw [s21] at s14
  rw [s14] at s7
  rw [s7] at s0
  exact s0
/-- What the condition gives. -/
theorem tab_of_forms {W : World} {r : List (String × DataW Unit)} (h : laidMet Tryz.prog (("mezzanine/decode.forms", Rows.laid_mezzanine_decode_forms) :: r) W) : Tab W := by
  obtain ⟨ps, ⟨g0, t0, cs0, f0, p0, q0, hg0, ht0, hv0, hd0, _⟩, _, _⟩ := h
  obtain rfl := Option.some.inj (gForms.symm.trans hg0)
  obtain rfl := Option.some.inj (tForms.symm.trans ht0)
  obtain ⟨xs, m, _, hx, hl, hn, hel⟩ := DataW.trod_array Tryz.underlying97 hd0
  have c68 : Tryz.prog.cellsOf 96 = 7 := by kernel_rfl
  have c69 : Tryz.prog.cellsOf 97 = 105 := by kernel_rfl
  rw [c69] at hl
  rw [c68] at hel
  simp only [Prod.mk.injEq] at hx
  match xs, hn with
  | [x0, x1, x2, x3, x4, x5, x6, x7, x8, x9, x10, x11, x12, x13, x14], _ =>
    have hx1 := hx.1
    unfold Rows.laid_mezzanine_decode_forms at hx1
    simp only [List.map_cons, List.map_nil, DataW.agg.injEq, List.cons.injEq] at hx1
    obtain ⟨e0, e1, e2, e3, e4, e5, e6, e7, e8, e9, e10, e11, e12, e13, e14, _⟩ := hx1
    have k0 := form_cells (hel 0 (by decide)) e0.symm
    have k1 := form_cells (hel 1 (by decide)) e1.symm
    have k2 := form_cells (hel 2 (by decide)) e2.symm
    have k3 := form_cells (hel 3 (by decide)) e3.symm
    have k4 := form_cells (hel 4 (by decide)) e4.symm
    have k5 := form_cells (hel 5 (by decide)) e5.symm
    have k6 := form_cells (hel 6 (by decide)) e6.symm
    have k7 := form_cells (hel 7 (by decide)) e7.symm
    have k8 := form_cells (hel 8 (by decide)) e8.symm
    have k9 := form_cells (hel 9 (by decide)) e9.symm
    have k10 := form_cells (hel 10 (by decide)) e10.symm
    have k11 := form_cells (hel 11 (by decide)) e11.symm
    have k12 := form_cells (hel 12 (by decide)) e12.symm
    have k13 := form_cells (hel 13 (by decide)) e13.symm
    have k14 := form_cells (hel 14 (by decide)) e14.symm
    have hcs := list105 hl k0 k1 k2 k3 k4 k5 k6 k7 k8 k9 k10 k11 k12 k13 k14
    simp only [World.var?, gForms, Option.bind_some] at hv0
    split at hv0
    · rename_i c t fr hb
      have hc := Option.some.inj hv0
      have hq : cs0 = formsQ := Array.ext' (by rw [hcs]; rfl)
      exact ⟨t, fr, by rw [hb, hc, hq]⟩
    · cases hv0

theorem returnsInHanded_and_shaped {H : Type} {enc : TypeId × Value → H} {a : Assume} {C : Checked} {os : Os} {f : FuncId} {fn : Func} {s : ChangeSpec} {conds : List PathCond} {apart fresh handsOn again : Bool} {X : World → Array Value → Prop}
    (hX : ∀ (w w' : World) (args : Array Value), w.heap = w'.heap → X w args → X w' args)
    (own : ownKnob C.prog.godebug = none) (started : os.Started) (noInit : C.prog.inits.idxOf? f = none) (hfn : C.prog.funcs[f]? = some fn)
    (witness : ∃ (w : World) (tape : Tape) (i : Input), w.os = os ∧ (w.forCall tape i).Shaped C.prog ∧ i.vars = [] ∧ Input.okWide C.prog (w.forCall tape i) .any w.heap.size f i ∧
      ((s.pre enc C.prog fn conds apart (w.forCall tape i).memory i.args ∧ X (w.forCall tape i).memory i.args) ∧ sizedMet enc C.prog fn (OpenSpec.ofChange s) apart (w.forCall tape i).memory i.args) ∧ a.holds C.prog (lone (Frame.enter C.prog f i.args .normal) [] (w.forCall tape i)))
    (contract : ∀ (W : World) (base : Nat) (args : Array Value) (ds gs : List (DataW H)) (before : List MemPlace),
      (∀ (j : Nat) t v, fn.params[j]? = some t → args[j]? = some v → Value.okWide C.prog W .any base t v) →
      DataW.Whole enc C.prog fn.params.toList s.vars apart W args.toList ds gs before → X W args → W.ShapedOpen C.prog →
      Calls C.prog f args W fun e W' => ∃ v, e = .returned v ∧ s.post enc C.prog fn apart fresh handsOn again W args v W') :
    ReturnsInHanded a C os f .any (fun w args => (s.pre enc C.prog fn conds apart w args ∧ X w args) ∧ sizedMet enc C.prog fn (OpenSpec.ofChange s) apart w args) (s.post enc C.prog fn apart fresh handsOn again) := by
  refine returnsInHanded_of_calls own started noInit witness ?_
  intro w tape i _ hsh _ hok hpre hholds
  obtain ⟨_, _, _, fn', hfn', _, _, _, _, hval⟩ := hok
  have e : fn' = fn := Option.some.inj (hfn'.symm.trans hfn)
  subst e
  obtain ⟨⟨⟨ds, gs, before, hw, hc⟩, hx⟩, hz⟩ := hpre
  have hw' := DataW.Whole.of_heap (w' := w.forCall tape i) (by rfl) hw
  refine (contract (w.forCall tape i) w.heap.size i.args ds gs before hval hw' (hX _ _ _ (by rfl) hx) hsh).mono fun e W' ⟨v, he, hp⟩ => ?_
  subst he
  exact ChangeSpec.post_blind hp
theorem mlen_of_shaped {w : World} (h : w.ShapedOpen Tryz.prog) : ∃ m, w.cell? ⟨2, 0, none⟩ = some (.int .i64 m) :=
  cell_of_shapedOpen_int (g := 2) (t := 3) (zero := #[.int .i64 0]) h (of_decide_eq_true (by kernel_rfl)) (by kernel_rfl) rfl (by kernel_rfl) (by kernel_rfl) Tryz.underlying3
def bruTab : List Int := [0, 1, 56, 2, 57, 49, 28, 3, 61, 58, 42, 50, 38, 29, 17, 4, 62, 47, 59, 36, 45, 43, 51, 22, 53, 39, 33, 30, 24, 18, 12, 5, 63, 55, 48, 27, 60, 41, 37, 16, 46, 35, 44, 21, 52, 32, 23, 11, 54, 26, 40, 15, 34, 20, 31, 10, 25, 14, 19, 9, 13, 8, 7, 6]
theorem bru_same : ∀ j, j < 64 → bruTab.getD j 0 = (([0, 1, 56, 2, 57, 49, 28, 3, 61, 58, 42, 50, 38, 29, 17, 4, 62, 47, 59, 36, 45, 43, 51, 22, 53, 39, 33, 30, 24, 18, 12, 5, 63, 55, 48, 27, 60, 41, 37, 16, 46, 35, 44, 21, 52, 32, 23, 11, 54, 26, 40, 15, 34, 20, 31, 10, 25, 14, 19, 9, 13, 8, 7, 6] : List Nat).getD j 0 : Nat) := by decide
theorem gBru : Tryz.prog.globalNamed "math/bits.deBruijn64tab" = some 1 := by kernel_rfl
theorem gSyn : Tryz.prog.globalNamed "strconv.ErrSyntax" = some 4 := by kernel_rfl
theorem gRan : Tryz.prog.globalNamed "strconv.ErrRange" = some 5 := by kernel_rfl
theorem iface_of_laid {n nm : String} {d : DataW Unit} {r : List (String × DataW Unit)} {W : World} {g : Nat} {ti : TypeId} {ms : Array (String × TypeId)} (h : laidMet Tryz.prog ((n, .iface nm d) :: r) W)
    (hg : Tryz.prog.globalNamed n = some g) (ht : (Tryz.prog.globals[g]?).map (·.type) = some ti) (hi : Tryz.prog.underlying ti = some (.interface ms)) : ∃ tp p, W.cell? ⟨g, 0, none⟩ = some (.iface tp p) := by
  obtain ⟨ps, ⟨g0, t0, cs0, f0, p0, q0, hg0, ht0, hv0, hd0, _, e0⟩, _, hrows⟩ := h
  obtain rfl := Option.some.inj (hg.symm.trans hg0)
  obtain rfl := Option.some.inj (ht.symm.trans ht0)
  obtain ⟨f1, u, v, e, _, _⟩ := iface_of_trod hi hd0
  have hc := World.var?_cell hg hv0 0
  obtain ⟨l⟩ := cs0
  have e' : l = [.iface u v] := e
  subst e'
  exact ⟨u, v, by simpa using hc⟩
/-- What the condition and the world's shape give. -/
theorem env_of_laid {W : World} (h : laidMetH Tryz.prog laidT W) (hs : W.ShapedOpen Tryz.prog) : Env W := by
  rw [MakeChecks.laidMetH_plain _ _ _ (by kernel_rfl)] at h
  have h1 := h.tail
  have h2 := h1.tail
  have h3 := h2.tail
  have h4 := h3.tail
  have h5 := h4.tail
  have h6 := h5.tail
  have hb : Lib.TabIs Tryz.prog W "math/bits.deBruijn64tab" .u8 bruTab := Lib.tabIs_of_head (n := 64) gBru (t := 125) (e := 5) (by kernel_rfl) Tryz.underlying125 Tryz.underlying5 (by kernel_rfl) (by kernel_rfl) h1
  exact ⟨tab_of_forms h6, Lib.tabIs_of_head (n := 20) gPow (t := 189) (e := 36) (by kernel_rfl) Tryz.underlying189 Tryz.underlying36 (by kernel_rfl) (by kernel_rfl) h2,
    fun j hj => ⟨_, by rw [hb.cell gBru j (by simpa [bruTab] using hj), bru_same j hj], rfl⟩,
    iface_of_laid h5 gSyn (by kernel_rfl) Tryz.underlying105, iface_of_laid h4 gRan (by kernel_rfl) Tryz.underlying105, mlen_of_shaped hs⟩

end Go.Proofs.YtakdhdaoklcidaaGreatDoor
