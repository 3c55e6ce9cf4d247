/- Layer 9: the walk of DecodeTables. -/
import Derived.Test.YtehlihhnkojjeaaDoorOnE
namespace Go.Proofs.YtehlihhnkojjeaaDoor
open Go.RowKit
set_option linter.unusedVariables false
set_option maxRecDepth 100000

/-- A Decoder that nobody made. -/
def decZ : Array Value := varr 131 (tblF 0 0 fun _ => .slice none 0 0)
theorem zero_dec (w : World) : (zeroValue 51).run Tryd.prog w = .ok (.agg decZ) w := by kernel_rfl
theorem size_dec : (Tryd.prog.info? 51).map (·.size) = some decZ.size := by kernel_rfl
theorem tbl_new {w : World} {b : Nat} (h : w.heap[b]? = some (.cells decZ 51 (0, 0))) : Tbl w b w.heap.size 0 0 (fun _ => 0) (fun _ => .slice none 0 0) (fun _ => []) :=
  ⟨h, (Array.getElem?_eq_some_iff.1 h).1, fun a ha => World.ownsRow_nil _ _ _ _, fun a g ha hg => by simp [Value.ownBlock] at hg⟩
theorem decD_first (b : Nat) (x : Int) (hx : In32 x) (w : World) (ht : Tab w) (hrow : w.heap[b]? = some (.cells decZ 51 (0, 0))) (hg : ¬ b = 0) :
    Calls Tryd.prog 19 #[.pointer (some ⟨b, 0, none⟩), .int .u32 x] w (DecE w b x) := by
  have hlt := (Array.getElem?_eq_some_iff.1 hrow).1
  refine decD_is b x hx w ht hlt hg ?_
  refine (do_first b (fun _ => 0) _ (tbl_new ((Below.heap_alloc w _ b hlt).trans hrow))).mono fun e w' h => ?_
  obtain ⟨he, ho, K, V, hT⟩ := h
  exact ⟨he, ho, _, K, V, hT, fun a ha hg => by have := (hT.own_lt ha hg).1; rw [World.size_alloc] at this; omega⟩
theorem decD_later (b : Nat) (x : Int) (hx : In32 x) (w : World) (ht : Tab w) {B : Nat} {K : Nat → Nat} {V : Nat → Value} (h : Tbl w b B 1 0 K V (lowL 114)) (hg : ¬ b = 0) :
    Calls Tryd.prog 19 #[.pointer (some ⟨b, 0, none⟩), .int .u32 x] w (DecE w b x) := by
  refine decD_is b x hx w ht h.lt hg ?_
  have hA := h.below ((Below.refl w.heap.size w).alloc (Nat.le_refl _) (.cells #[.int .i64 0, .int .i64 0, .int .i64 0, .int .i64 0, .int .i64 0, .int .i64 0, .bool false, .bool false] 24))
  refine (do_done b _ _ (hA.cell (by omega))).mono fun e w' h2 => ?_
  obtain ⟨he, rfl⟩ := h2
  exact ⟨he, Only.refl _ _, B, K, V, hA, fun a ha hg => by have := (h.own_lt ha hg).2; omega⟩
/-- An instruction in a block of its own. -/
def R8 (w : World) (b : Nat) (I : Ins) : Prop := w.heap[b]? = some (.cells #[.int .i64 I.op, .int .i64 I.rd, .int .i64 I.a, .int .i64 I.b, .int .i64 I.imm, .int .i64 I.csr, .bool I.aq, .bool I.rl] 24 (0, 0))
theorem R8.below {w w' : World} {b : Nat} {I : Ins} (h : R8 w b I) (o : Below w.heap.size w w') : R8 w' b I := (o.block _ (Array.getElem?_eq_some_iff.1 h).1).trans h
theorem R8.only {w w' : World} {b : Nat} {I : Ins} {S : Nat → Prop} (h : R8 w b I) (o : Only S w w') (hs : ¬ S b) : R8 w' b I := o.keeps hs h
theorem R8.new (w : World) (I : Ins) : R8 (w.alloc (.cells #[.int .i64 I.op, .int .i64 I.rd, .int .i64 I.a, .int .i64 I.b, .int .i64 I.imm, .int .i64 I.csr, .bool I.aq, .bool I.rl] 24)) w.heap.size I := heap_alloc_new w _
theorem R8.lt {w : World} {b : Nat} {I : Ins} (h : R8 w b I) : b < w.heap.size := (Array.getElem?_eq_some_iff.1 h).1
theorem R8.alloc {w : World} {b : Nat} {I : Ins} (h : R8 w b I) (x : Obj) : R8 (w.alloc x) b I := (Below.heap_alloc w x b h.lt).trans h
theorem R8.cells {w : World} {b : Nat} {I : Ins} (h : R8 w b I) : w.cell? ⟨b, 0, none⟩ = some (.int .i64 I.op) ∧ w.cell? ⟨b, 1, none⟩ = some (.int .i64 I.rd) ∧ w.cell? ⟨b, 2, none⟩ = some (.int .i64 I.a) ∧ w.cell? ⟨b, 3, none⟩ = some (.int .i64 I.b) ∧ w.cell? ⟨b, 4, none⟩ = some (.int .i64 I.imm) ∧ w.cell? ⟨b, 5, none⟩ = some (.int .i64 I.csr) ∧ w.cell? ⟨b, 6, none⟩ = some (.bool I.aq) ∧ w.cell? ⟨b, 7, none⟩ = some (.bool I.rl) := by
  refine ⟨?_, ?_, ?_, ?_, ?_, ?_, ?_, ?_⟩ <;> (rw [cell_of_row _ _ _ _ _ _ h]; rfl)

set_option maxHeartbeats 4000000 in
theorem decodeTables_walk (x y : Int) (w : World) (w0 : In32 x) (w1 : In32 y) (ht : Tab w) :
    Calls Tryd.prog 6 #[.int .u32 x, .int .u32 y] w fun e w' => e = .returned (.bool true) ∧ Below w.heap.size w w' := by
  have hz := zero_dec
  have hg : ¬ w.heap.size = 0 := by have := ht.lt; omega
  have HG := Lib.hid hg
  have HX := Lib.hid w0
  have HY := Lib.hid w1
  have H1 := Lib.hid fun w ht => decode_is x w ht
  have H2 := Lib.hid fun w ht => decode_is y w ht
  have H3 := Lib.hid fun w ht hrow => decD_first w.heap.size x HX.out w ht hrow
  have HD : Hid ((w.alloc (.cells decZ 51)).heap[w.heap.size]? = some (.cells decZ 51 (0, 0))) := Lib.hid (heap_alloc_new w _)
  have HB0 : Hid (Below w.heap.size w (w.alloc (.cells decZ 51))) := Lib.hid ((Below.refl _ _).alloc (Nat.le_refl _) _)
  have HN0 : Hid (w.heap.size < (w.alloc (.cells decZ 51)).heap.size) := Lib.hid (by rw [World.size_alloc]; omega)
  have HT := Lib.hid ht
  clear ht w0 w1 hg H3
  go_enter Tryd.func6, Tryd.ntmps6
  go_wp2_with fail
  generalize hW : (w.alloc (.cells decZ 51)) = ww at *
  clear hW
  generalize hn : w.heap.size = n at *
  have HNN := Lib.hid hn
  have HTW : Hid (Tab ww) := Lib.hid (HT.out.below (by rw [hn]; exact HB0.out))
  clear hn
  go_wp2_with (first
    | (go_at_call 10; (with_reducible refine (H1.out _ HTW.out).mono ?_); rintro e1 w1 ⟨rfl, hb1⟩; have HB1 := Lib.hid (HB0.out.trans (hb1.mono (Nat.le_of_lt HN0.out))); have HT1 := Lib.hid (HTW.out.below hb1); have HD1 := Lib.hid ((hb1.block _ HN0.out).trans HD.out); have hn1 : n < w1.heap.size := Nat.lt_of_lt_of_le HN0.out hb1.size; clear hb1)
    | (go_at_call 10; (with_reducible refine (H2.out _ (HT1.out.below ((Below.refl _ _).alloc (Nat.le_refl _) _))).mono ?_); rintro e2 w2 ⟨rfl, hb2⟩; have HB2 := Lib.hid ((HB1.out.alloc (Nat.le_of_lt hn1) (.cells #[.int .i64 (decI x).op, .int .i64 (decI x).rd, .int .i64 (decI x).a, .int .i64 (decI x).b, .int .i64 (decI x).imm, .int .i64 (decI x).csr, .bool (decI x).aq, .bool (decI x).rl] 24)).trans (hb2.mono (by rw [World.size_alloc]; omega))); have HT2 := Lib.hid ((HT1.out.below ((Below.refl _ _).alloc (Nat.le_refl _) (.cells #[.int .i64 (decI x).op, .int .i64 (decI x).rd, .int .i64 (decI x).a, .int .i64 (decI x).b, .int .i64 (decI x).imm, .int .i64 (decI x).csr, .bool (decI x).aq, .bool (decI x).rl] 24))).below hb2); have HD2 := Lib.hid ((hb2.block _ (by rw [World.size_alloc]; omega)).trans ((Below.heap_alloc w1 (.cells #[.int .i64 (decI x).op, .int .i64 (decI x).rd, .int .i64 (decI x).a, .int .i64 (decI x).b, .int .i64 (decI x).imm, .int .i64 (decI x).csr, .bool (decI x).aq, .bool (decI x).rl] 24) n hn1).trans HD1.out)); have HR12 := Lib.hid ((R8.new w1 (decI x)).below hb2); have hn2 : n < w2.heap.size := (by have := hb2.size; rw [World.size_alloc] at this; omega); clear hb2)
    | (go_at_call 19; (with_reducible refine (decD_first n x HX.out _ (HT2.out.below ((Below.refl _ _).alloc (Nat.le_refl _) _)) ((Below.heap_alloc w2 _ n hn2).trans HD2.out) HG.out).mono ?_); rintro e3 w3 ⟨rfl, ho3, B3, K3, V3, ht3⟩; have HO3 := Lib.hid ho3; have hz3 : w2.heap.size < w3.heap.size := (by have := ho3.size; rw [World.size_alloc] at this; omega); have hn3 : n < w3.heap.size := (by omega); have HB3 := Lib.hid (Below.thenOnly (HB2.out.alloc (Nat.le_of_lt hn2) (.cells #[.int .i64 (decI y).op, .int .i64 (decI y).rd, .int .i64 (decI y).a, .int .i64 (decI y).b, .int .i64 (decI y).imm, .int .i64 (decI y).csr, .bool (decI y).aq, .bool (decI y).rl] 24)) ho3 (by rintro i rfl; exact Nat.le_refl _) (by rw [World.size_alloc]; omega)); have HT3 : Hid (Tab w3) := Lib.hid (by obtain ⟨tt, fr, hh⟩ := HT2.out.below ((Below.refl _ _).alloc (Nat.le_refl _) (.cells #[.int .i64 (decI y).op, .int .i64 (decI y).rd, .int .i64 (decI y).a, .int .i64 (decI y).b, .int .i64 (decI y).imm, .int .i64 (decI y).csr, .bool (decI y).aq, .bool (decI y).rl] 24)); exact ⟨tt, fr, ho3.keeps (by intro hh2; exact HG.out hh2.symm) hh⟩); have HR13 := Lib.hid ((HR12.out.alloc (.cells #[.int .i64 (decI y).op, .int .i64 (decI y).rd, .int .i64 (decI y).a, .int .i64 (decI y).b, .int .i64 (decI y).imm, .int .i64 (decI y).csr, .bool (decI y).aq, .bool (decI y).rl] 24)).only ho3 (by omega)); have HR23 := Lib.hid ((R8.new w2 (decI y)).only ho3 (by omega)); have HTB3 := Lib.hid ht3; clear ho3 ht3)
    | (go_at_call 19; (with_reducible refine (decD_later n y HY.out _ (HT3.out.below ((Below.refl _ _).alloc (Nat.le_refl _) _)) (HTB3.out.below ((Below.refl _ _).alloc (Nat.le_refl _) _)) HG.out).mono ?_); rintro e4 w4 ⟨rfl, ho4, B4, K4, V4, ht4⟩; have hz4 : w3.heap.size < w4.heap.size := (by have := ho4.size; rw [World.size_alloc] at this; omega); have hn4 : n < w4.heap.size := (by omega); have HB4 := Lib.hid (Below.thenOnly (HB3.out.alloc (Nat.le_of_lt hn3) (.cells #[.int .i64 (decI x).op, .int .i64 (decI x).rd, .int .i64 (decI x).a, .int .i64 (decI x).b, .int .i64 (decI x).imm, .int .i64 (decI x).csr, .bool (decI x).aq, .bool (decI x).rl] 24)) ho4 (by rintro i rfl; exact Nat.le_refl _) (by rw [World.size_alloc]; omega)); have HT4 : Hid (Tab w4) := Lib.hid (by obtain ⟨tt, fr, hh⟩ := HT3.out.below ((Below.refl _ _).alloc (Nat.le_refl _) (.cells #[.int .i64 (decI x).op, .int .i64 (decI x).rd, .int .i64 (decI x).a, .int .i64 (decI x).b, .int .i64 (decI x).imm, .int .i64 (decI x).csr, .bool (decI x).aq, .bool (decI x).rl] 24)); exact ⟨tt, fr, ho4.keeps (by intro hh2; exact HG.out hh2.symm) hh⟩); have HR14 := Lib.hid ((HR13.out.alloc (.cells #[.int .i64 (decI x).op, .int .i64 (decI x).rd, .int .i64 (decI x).a, .int .i64 (decI x).b, .int .i64 (decI x).imm, .int .i64 (decI x).csr, .bool (decI x).aq, .bool (decI x).rl] 24)).only ho4 (by omega)); have HR24 := Lib.hid ((HR23.out.alloc (.cells #[.int .i64 (decI x).op, .int .i64 (decI x).rd, .int .i64 (decI x).a, .int .i64 (decI x).b, .int .i64 (decI x).imm, .int .i64 (decI x).csr, .bool (decI x).aq, .bool (decI x).rl] 24)).only ho4 (by omega)); have HR34 := Lib.hid ((R8.new w3 (decI x)).only ho4 (by omega)); clear ho4 ht4)
    | (go_at_call 19; (with_reducible refine (decN_is x _ (HT4.out.below ((Below.refl _ _).alloc (Nat.le_refl _) _))).mono ?_); rintro e5 w5 ⟨rfl, hb5⟩; have hz5 : w4.heap.size < w5.heap.size := (by have := hb5.size; rw [World.size_alloc] at this; omega); have hm1 : w1.heap.size < w5.heap.size := (by have := HR14.out.lt; omega); have hm2 : w2.heap.size < w5.heap.size := (by omega); have hm3 : w3.heap.size < w5.heap.size := (by omega); have HB5 := Lib.hid ((HB4.out.alloc (Nat.le_of_lt hn4) (.cells #[.int .i64 (decI y).op, .int .i64 (decI y).rd, .int .i64 (decI y).a, .int .i64 (decI y).b, .int .i64 (decI y).imm, .int .i64 (decI y).csr, .bool (decI y).aq, .bool (decI y).rl] 24)).trans (hb5.mono (by rw [World.size_alloc]; omega))); have HT5 := Lib.hid ((HT4.out.below ((Below.refl _ _).alloc (Nat.le_refl _) (.cells #[.int .i64 (decI y).op, .int .i64 (decI y).rd, .int .i64 (decI y).a, .int .i64 (decI y).b, .int .i64 (decI y).imm, .int .i64 (decI y).csr, .bool (decI y).aq, .bool (decI y).rl] 24))).below hb5); obtain ⟨pa0, pa1, pa2, pa3, pa4, pa5, pa6, pa7⟩ := ((HR14.out.alloc (.cells #[.int .i64 (decI y).op, .int .i64 (decI y).rd, .int .i64 (decI y).a, .int .i64 (decI y).b, .int .i64 (decI y).imm, .int .i64 (decI y).csr, .bool (decI y).aq, .bool (decI y).rl] 24)).below hb5).cells; obtain ⟨pb0, pb1, pb2, pb3, pb4, pb5, pb6, pb7⟩ := ((HR24.out.alloc (.cells #[.int .i64 (decI y).op, .int .i64 (decI y).rd, .int .i64 (decI y).a, .int .i64 (decI y).b, .int .i64 (decI y).imm, .int .i64 (decI y).csr, .bool (decI y).aq, .bool (decI y).rl] 24)).below hb5).cells; obtain ⟨pc0, pc1, pc2, pc3, pc4, pc5, pc6, pc7⟩ := ((HR34.out.alloc (.cells #[.int .i64 (decI y).op, .int .i64 (decI y).rd, .int .i64 (decI y).a, .int .i64 (decI y).b, .int .i64 (decI y).imm, .int .i64 (decI y).csr, .bool (decI y).aq, .bool (decI y).rl] 24)).below hb5).cells; obtain ⟨pd0, pd1, pd2, pd3, pd4, pd5, pd6, pd7⟩ := ((R8.new w4 (decI y)).below hb5).cells; clear hb5)
    | (go_at_call 12; (with_reducible refine (wakes_any _ (HT5.out.below ((Below.refl _ _).alloc (Nat.le_refl _) _))).mono ?_); rintro e6 w6 ⟨rfl, hb6⟩; have HB6 := Lib.hid ((HB5.out.alloc (by omega) (.cells #[.int .i64 (decI x).op, .int .i64 (decI x).rd, .int .i64 (decI x).a, .int .i64 (decI x).b, .int .i64 (decI x).imm, .int .i64 (decI x).csr, .bool (decI x).aq, .bool (decI x).rl] 24)).trans (hb6.mono (by rw [World.size_alloc]; omega))); clear hb6))
  go_ret
  exact ⟨rfl, by rw [HNN.out]; exact HB6.out⟩

end Go.Proofs.YtehlihhnkojjeaaDoor
