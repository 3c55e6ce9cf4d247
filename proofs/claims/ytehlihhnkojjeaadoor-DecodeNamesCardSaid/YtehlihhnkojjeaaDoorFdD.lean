/- The contracts of unsigned, signed and find: each form's layout. -/
import Derived.Test.YtehlihhnkojjeaaDoorFdC
import Derived.Test.YtehlihhnkojjeaaDoorCp
namespace Go.Proofs.YtehlihhnkojjeaaDoor
open Go.RowKit
set_option linter.unusedVariables false
set_option maxRecDepth 100000

set_option maxRecDepth 100000 in
theorem fits_any (L : Lay) (hL : L.Ok) (n : Int) (w : World) :
    Calls Tryd.prog 52 #[L.val, .int .i64 n] w fun e w' => e = .returned (.bool (L.number (L.word n) == n)) ∧ Below w.heap.size w w' := by
  have HW := Lib.hid (word_any L hL n)
  have HX := Lib.hid (number_any L hL (L.word n))
  have hR : LayAt L w.heap.size (w.alloc (.cells L.cells 92)) := heap_alloc_new w _
  have hb : Below w.heap.size w (w.alloc (.cells L.cells 92)) := (Below.refl _ _).alloc (Nat.le_refl _) _
  have HB := Lib.hid hb
  have HZ : Hid (w.heap.size < (w.alloc (.cells L.cells 92)).heap.size) := Lib.hid (by simp)
  unfold Lay.val at *
  go_enter Tryd.func52, Tryd.ntmps52
  go_wp2
  rw [show (#[.int .i64 (L.h 0), .int .i64 (L.l 0), .int .i64 (L.h 1), .int .i64 (L.l 1), .int .i64 (L.h 2), .int .i64 (L.l 2), .int .i64 (L.h 3), .int .i64 (L.l 3), .int .i64 (L.ps.length), .int .i64 (L.nt), .bool L.sg] : Array Value) = L.cells from rfl]
  generalize hw2 : (w.alloc (.cells L.cells 92)) = w2 at *
  clear hw2 hb
  have c0 := hR.cell (o := 0) (v := .int .i64 (L.h 0)) rfl
  have c1 := hR.cell (o := 1) (v := .int .i64 (L.l 0)) rfl
  have c2 := hR.cell (o := 2) (v := .int .i64 (L.h 1)) rfl
  have c3 := hR.cell (o := 3) (v := .int .i64 (L.l 1)) rfl
  have c4 := hR.cell (o := 4) (v := .int .i64 (L.h 2)) rfl
  have c5 := hR.cell (o := 5) (v := .int .i64 (L.l 2)) rfl
  have c6 := hR.cell (o := 6) (v := .int .i64 (L.h 3)) rfl
  have c7 := hR.cell (o := 7) (v := .int .i64 (L.l 3)) rfl
  have c8 := hR.cell (o := 8) (v := .int .i64 (L.ps.length)) rfl
  have c9 := hR.cell (o := 9) (v := .int .i64 (L.nt)) rfl
  have c10 := hR.cell (o := 10) (v := .bool L.sg) rfl
  have HR := Lib.hid hR
  clear hR
  generalize hB : w.heap.size = B at *
  go_region_held3 (fun w' => w'.cell? ⟨B, 0, none⟩ = some (.int .i64 (L.h 0)) ∧ w'.cell? ⟨B, 1, none⟩ = some (.int .i64 (L.l 0)) ∧ w'.cell? ⟨B, 2, none⟩ = some (.int .i64 (L.h 1)) ∧ w'.cell? ⟨B, 3, none⟩ = some (.int .i64 (L.l 1)) ∧ w'.cell? ⟨B, 4, none⟩ = some (.int .i64 (L.h 2)) ∧ w'.cell? ⟨B, 5, none⟩ = some (.int .i64 (L.l 2)) ∧ w'.cell? ⟨B, 6, none⟩ = some (.int .i64 (L.h 3)) ∧ w'.cell? ⟨B, 7, none⟩ = some (.int .i64 (L.l 3)) ∧ w'.cell? ⟨B, 8, none⟩ = some (.int .i64 (L.ps.length)) ∧ w'.cell? ⟨B, 9, none⟩ = some (.int .i64 (L.nt)) ∧ w'.cell? ⟨B, 10, none⟩ = some (.bool L.sg)) (go_keep)
    (first
      | (go_at_call 53; refine (HW.out _).mono ?_; rintro e w3 ⟨rfl, hb3⟩; have hR3 := HR.out.below ((Below.refl _ _).drew.trans hb3) HZ.out; have e0 := hR3.cell (o := 0) (v := .int .i64 (L.h 0)) rfl; have e1 := hR3.cell (o := 1) (v := .int .i64 (L.l 0)) rfl; have e2 := hR3.cell (o := 2) (v := .int .i64 (L.h 1)) rfl; have e3 := hR3.cell (o := 3) (v := .int .i64 (L.l 1)) rfl; have e4 := hR3.cell (o := 4) (v := .int .i64 (L.h 2)) rfl; have e5 := hR3.cell (o := 5) (v := .int .i64 (L.l 2)) rfl; have e6 := hR3.cell (o := 6) (v := .int .i64 (L.h 3)) rfl; have e7 := hR3.cell (o := 7) (v := .int .i64 (L.l 3)) rfl; have e8 := hR3.cell (o := 8) (v := .int .i64 (L.ps.length)) rfl; have e9 := hR3.cell (o := 9) (v := .int .i64 (L.nt)) rfl; have e10 := hR3.cell (o := 10) (v := .bool L.sg) rfl; have HB3 := Lib.hid ((Below.refl _ _).drew.trans hb3); have HR3 := Lib.hid hR3; clear hb3 hR3)
      | (go_at_call 49; refine (HX.out _).mono ?_; rintro e w4 ⟨rfl, hb4⟩; have hR4 := HR3.out.below hb4 HR3.out.lt; have f0 := hR4.cell (o := 0) (v := .int .i64 (L.h 0)) rfl; have f1 := hR4.cell (o := 1) (v := .int .i64 (L.l 0)) rfl; have f2 := hR4.cell (o := 2) (v := .int .i64 (L.h 1)) rfl; have f3 := hR4.cell (o := 3) (v := .int .i64 (L.l 1)) rfl; have f4 := hR4.cell (o := 4) (v := .int .i64 (L.h 2)) rfl; have f5 := hR4.cell (o := 5) (v := .int .i64 (L.l 2)) rfl; have f6 := hR4.cell (o := 6) (v := .int .i64 (L.h 3)) rfl; have f7 := hR4.cell (o := 7) (v := .int .i64 (L.l 3)) rfl; have f8 := hR4.cell (o := 8) (v := .int .i64 (L.ps.length)) rfl; have f9 := hR4.cell (o := 9) (v := .int .i64 (L.nt)) rfl; have f10 := hR4.cell (o := 10) (v := .bool L.sg) rfl; have HB4 := Lib.hid (HB.out.trans ((HB3.out.mono (Nat.le_of_lt HZ.out)).trans (hb4.mono (Nat.le_trans (Nat.le_of_lt HZ.out) HB3.out.size)))); clear hb4 hR4))
  go_wp2
  go_ret
  exact ⟨rfl, by rw [hB]; exact HB4.out⟩

theorem add_none (b off i : Nat) : (⟨b, off, none⟩ : Addr).add i = ⟨b, off + i, none⟩ := by
  unfold Addr.add; split <;> simp_all
theorem setRow_two (w : World) (o : Obj) (c c' : Array Value) (t : TypeId) : ((w.alloc o).alloc (.cells c t)).setRow (w.heap.size + 1) c' = (w.alloc o).alloc (.cells c' t) := by
  have h := World.setRow_alloc_new (w.alloc o) c c' t
  rwa [World.size_alloc] at h
theorem size39i : (Tryd.prog.info? 89).map (·.size) = some 2 := by kernel_rfl

theorem unsigned_1 (g0 : Nat) (a b : Int) (w : World) (h0 : w.cell? ⟨g0, 0, none⟩ = some (.int .i64 a)) (h1 : w.cell? ⟨g0, 1, none⟩ = some (.int .i64 b)) (hg : g0 < w.heap.size) :
    Calls Tryd.prog 59 #[.slice (some ⟨g0, 0, none⟩) 1 1] w fun e w' => e = .returned (.agg #[.int .i64 a, .int .i64 b, .int .i64 0, .int .i64 0, .int .i64 0, .int .i64 0, .int .i64 0, .int .i64 0, .int .i64 1, .int .i64 0, .bool false]) ∧ Below w.heap.size w w' := by
  have hcp : (Builtin.copy_ #[106, 106] 3 #[.slice (some ⟨w.heap.size + 1, 0, none⟩) 4 4, .slice (some ⟨g0, 0, none⟩) 1 1]).run Tryd.prog ((w.alloc (.cells #[.int .i64 0, .int .i64 0, .int .i64 0, .int .i64 0, .int .i64 0, .int .i64 0, .int .i64 0, .int .i64 0, .int .i64 0, .int .i64 0, .bool false] 92)).alloc (.cells #[.int .i64 0, .int .i64 0, .int .i64 0, .int .i64 0, .int .i64 0, .int .i64 0, .int .i64 0, .int .i64 0, .int .i64 0, .int .i64 0, .bool false] 92)) = .ok (.int .i64 1) ((w.alloc (.cells #[.int .i64 0, .int .i64 0, .int .i64 0, .int .i64 0, .int .i64 0, .int .i64 0, .int .i64 0, .int .i64 0, .int .i64 0, .int .i64 0, .bool false] 92)).alloc (.cells #[.int .i64 a, .int .i64 b, .int .i64 0, .int .i64 0, .int .i64 0, .int .i64 0, .int .i64 0, .int .i64 0, .int .i64 0, .int .i64 0, .bool false] 92)) := by
    rw [run_copy_els (P := Tryd.prog) _ 106 106 3 89 (w.heap.size + 1) 0 4 4 ⟨g0, 0, none⟩ 1 1 #[.int .i64 0, .int .i64 0, .int .i64 0, .int .i64 0, .int .i64 0, .int .i64 0, .int .i64 0, .int .i64 0, .int .i64 0, .int .i64 0, .bool false] 92 [.int .i64 a, .int .i64 b] 2 1 Tryd.underlying106 size39i (heap_alloc_new (w.alloc _) _ |> fun h => by rwa [World.size_alloc] at h) rfl rfl ?_ (by simp) (by simp [Value.oneCell']), setRow_two]
    · rfl
    · intro j v hv
      rw [add_none, Nat.zero_add]
      refine ((((Below.refl _ _).alloc (Nat.le_refl _) _).alloc (by simp) _ : Below w.heap.size w _).cell (p := ⟨g0, j, none⟩) hg).trans ?_
      match j, hv with
      | 0, hv => exact (h0).trans hv
      | 1, hv => exact (h1).trans hv
      | i + 2, hv => simp at hv
  go_enter Tryd.func59, Tryd.ntmps59
  go_wp2
  exact bodyPost_ret (v := .agg #[.int .i64 a, .int .i64 b, .int .i64 0, .int .i64 0, .int .i64 0, .int .i64 0, .int .i64 0, .int .i64 0, .int .i64 1, .int .i64 0, .bool false]) (by simp [results, Tryd.results59, go_sem]) rfl ⟨rfl, ((Below.refl _ _).alloc (Nat.le_refl _) _).alloc (by simp) _⟩

theorem unsigned_2 (g0 : Nat) (a b c d : Int) (w : World) (h0 : w.cell? ⟨g0, 0, none⟩ = some (.int .i64 a)) (h1 : w.cell? ⟨g0, 1, none⟩ = some (.int .i64 b)) (h2 : w.cell? ⟨g0, 2, none⟩ = some (.int .i64 c)) (h3 : w.cell? ⟨g0, 3, none⟩ = some (.int .i64 d)) (hg : g0 < w.heap.size) :
    Calls Tryd.prog 59 #[.slice (some ⟨g0, 0, none⟩) 2 2] w fun e w' => e = .returned (.agg #[.int .i64 a, .int .i64 b, .int .i64 c, .int .i64 d, .int .i64 0, .int .i64 0, .int .i64 0, .int .i64 0, .int .i64 2, .int .i64 0, .bool false]) ∧ Below w.heap.size w w' := by
  have hcp : (Builtin.copy_ #[106, 106] 3 #[.slice (some ⟨w.heap.size + 1, 0, none⟩) 4 4, .slice (some ⟨g0, 0, none⟩) 2 2]).run Tryd.prog ((w.alloc (.cells #[.int .i64 0, .int .i64 0, .int .i64 0, .int .i64 0, .int .i64 0, .int .i64 0, .int .i64 0, .int .i64 0, .int .i64 0, .int .i64 0, .bool false] 92)).alloc (.cells #[.int .i64 0, .int .i64 0, .int .i64 0, .int .i64 0, .int .i64 0, .int .i64 0, .int .i64 0, .int .i64 0, .int .i64 0, .int .i64 0, .bool false] 92)) = .ok (.int .i64 2) ((w.alloc (.cells #[.int .i64 0, .int .i64 0, .int .i64 0, .int .i64 0, .int .i64 0, .int .i64 0, .int .i64 0, .int .i64 0, .int .i64 0, .int .i64 0, .bool false] 92)).alloc (.cells #[.int .i64 a, .int .i64 b, .int .i64 c, .int .i64 d, .int .i64 0, .int .i64 0, .int .i64 0, .int .i64 0, .int .i64 0, .int .i64 0, .bool false] 92)) := by
    rw [run_copy_els (P := Tryd.prog) _ 106 106 3 89 (w.heap.size + 1) 0 4 4 ⟨g0, 0, none⟩ 2 2 #[.int .i64 0, .int .i64 0, .int .i64 0, .int .i64 0, .int .i64 0, .int .i64 0, .int .i64 0, .int .i64 0, .int .i64 0, .int .i64 0, .bool false] 92 [.int .i64 a, .int .i64 b, .int .i64 c, .int .i64 d] 2 2 Tryd.underlying106 size39i (heap_alloc_new (w.alloc _) _ |> fun h => by rwa [World.size_alloc] at h) rfl rfl ?_ (by simp) (by simp [Value.oneCell']), setRow_two]
    · rfl
    · intro j v hv
      rw [add_none, Nat.zero_add]
      refine ((((Below.refl _ _).alloc (Nat.le_refl _) _).alloc (by simp) _ : Below w.heap.size w _).cell (p := ⟨g0, j, none⟩) hg).trans ?_
      match j, hv with
      | 0, hv => exact (h0).trans hv
      | 1, hv => exact (h1).trans hv
      | 2, hv => exact (h2).trans hv
      | 3, hv => exact (h3).trans hv
      | i + 4, hv => simp at hv
  go_enter Tryd.func59, Tryd.ntmps59
  go_wp2
  exact bodyPost_ret (v := .agg #[.int .i64 a, .int .i64 b, .int .i64 c, .int .i64 d, .int .i64 0, .int .i64 0, .int .i64 0, .int .i64 0, .int .i64 2, .int .i64 0, .bool false]) (by simp [results, Tryd.results59, go_sem]) rfl ⟨rfl, ((Below.refl _ _).alloc (Nat.le_refl _) _).alloc (by simp) _⟩

theorem unsigned_4 (g0 : Nat) (a b c d p q r s : Int) (w : World) (h0 : w.cell? ⟨g0, 0, none⟩ = some (.int .i64 a)) (h1 : w.cell? ⟨g0, 1, none⟩ = some (.int .i64 b)) (h2 : w.cell? ⟨g0, 2, none⟩ = some (.int .i64 c)) (h3 : w.cell? ⟨g0, 3, none⟩ = some (.int .i64 d)) (h4 : w.cell? ⟨g0, 4, none⟩ = some (.int .i64 p)) (h5 : w.cell? ⟨g0, 5, none⟩ = some (.int .i64 q)) (h6 : w.cell? ⟨g0, 6, none⟩ = some (.int .i64 r)) (h7 : w.cell? ⟨g0, 7, none⟩ = some (.int .i64 s)) (hg : g0 < w.heap.size) :
    Calls Tryd.prog 59 #[.slice (some ⟨g0, 0, none⟩) 4 4] w fun e w' => e = .returned (.agg #[.int .i64 a, .int .i64 b, .int .i64 c, .int .i64 d, .int .i64 p, .int .i64 q, .int .i64 r, .int .i64 s, .int .i64 4, .int .i64 0, .bool false]) ∧ Below w.heap.size w w' := by
  have hcp : (Builtin.copy_ #[106, 106] 3 #[.slice (some ⟨w.heap.size + 1, 0, none⟩) 4 4, .slice (some ⟨g0, 0, none⟩) 4 4]).run Tryd.prog ((w.alloc (.cells #[.int .i64 0, .int .i64 0, .int .i64 0, .int .i64 0, .int .i64 0, .int .i64 0, .int .i64 0, .int .i64 0, .int .i64 0, .int .i64 0, .bool false] 92)).alloc (.cells #[.int .i64 0, .int .i64 0, .int .i64 0, .int .i64 0, .int .i64 0, .int .i64 0, .int .i64 0, .int .i64 0, .int .i64 0, .int .i64 0, .bool false] 92)) = .ok (.int .i64 4) ((w.alloc (.cells #[.int .i64 0, .int .i64 0, .int .i64 0, .int .i64 0, .int .i64 0, .int .i64 0, .int .i64 0, .int .i64 0, .int .i64 0, .int .i64 0, .bool false] 92)).alloc (.cells #[.int .i64 a, .int .i64 b, .int .i64 c, .int .i64 d, .int .i64 p, .int .i64 q, .int .i64 r, .int .i64 s, .int .i64 0, .int .i64 0, .bool false] 92)) := by
    rw [run_copy_els (P := Tryd.prog) _ 106 106 3 89 (w.heap.size + 1) 0 4 4 ⟨g0, 0, none⟩ 4 4 #[.int .i64 0, .int .i64 0, .int .i64 0, .int .i64 0, .int .i64 0, .int .i64 0, .int .i64 0, .int .i64 0, .int .i64 0, .int .i64 0, .bool false] 92 [.int .i64 a, .int .i64 b, .int .i64 c, .int .i64 d, .int .i64 p, .int .i64 q, .int .i64 r, .int .i64 s] 2 4 Tryd.underlying106 size39i (heap_alloc_new (w.alloc _) _ |> fun h => by rwa [World.size_alloc] at h) rfl rfl ?_ (by simp) (by simp [Value.oneCell']), setRow_two]
    · rfl
    · intro j v hv
      rw [add_none, Nat.zero_add]
      refine ((((Below.refl _ _).alloc (Nat.le_refl _) _).alloc (by simp) _ : Below w.heap.size w _).cell (p := ⟨g0, j, none⟩) hg).trans ?_
      match j, hv with
      | 0, hv => exact (h0).trans hv
      | 1, hv => exact (h1).trans hv
      | 2, hv => exact (h2).trans hv
      | 3, hv => exact (h3).trans hv
      | 4, hv => exact (h4).trans hv
      | 5, hv => exact (h5).trans hv
      | 6, hv => exact (h6).trans hv
      | 7, hv => exact (h7).trans hv
      | i + 8, hv => simp at hv
  go_enter Tryd.func59, Tryd.ntmps59
  go_wp2
  exact bodyPost_ret (v := .agg #[.int .i64 a, .int .i64 b, .int .i64 c, .int .i64 d, .int .i64 p, .int .i64 q, .int .i64 r, .int .i64 s, .int .i64 4, .int .i64 0, .bool false]) (by simp [results, Tryd.results59, go_sem]) rfl ⟨rfl, ((Below.refl _ _).alloc (Nat.le_refl _) _).alloc (by simp) _⟩

theorem size42i : (Tryd.prog.info? 92).map (·.size) = some 11 := by kernel_rfl

theorem signed_1 (g0 : Nat) (nt a b : Int) (w : World) (h0 : w.cell? ⟨g0, 0, none⟩ = some (.int .i64 a)) (h1 : w.cell? ⟨g0, 1, none⟩ = some (.int .i64 b)) (hg : g0 < w.heap.size) :
    Calls Tryd.prog 58 #[.int .i64 nt, .slice (some ⟨g0, 0, none⟩) 1 1] w fun e w' => e = .returned (.agg #[.int .i64 a, .int .i64 b, .int .i64 0, .int .i64 0, .int .i64 0, .int .i64 0, .int .i64 0, .int .i64 0, .int .i64 1, .int .i64 nt, .bool true]) ∧ Below w.heap.size w w' := by
  have hb0 : Below w.heap.size w (w.alloc (.cells #[.int .i64 0, .int .i64 0, .int .i64 0, .int .i64 0, .int .i64 0, .int .i64 0, .int .i64 0, .int .i64 0, .int .i64 0, .int .i64 0, .bool false] 92)) := (Below.refl _ _).alloc (Nat.le_refl _) _
  have HC := Lib.hid (unsigned_1 g0 a b (w.alloc (.cells #[.int .i64 0, .int .i64 0, .int .i64 0, .int .i64 0, .int .i64 0, .int .i64 0, .int .i64 0, .int .i64 0, .int .i64 0, .int .i64 0, .bool false] 92)) ((hb0.cell (p := ⟨g0, 0, none⟩) hg).trans h0) ((hb0.cell (p := ⟨g0, 1, none⟩) hg).trans h1) (by simp; omega))
  have HB0 := Lib.hid hb0
  clear hb0
  go_enter Tryd.func58, Tryd.ntmps58
  go_wp2_with (first
    | (go_at_call 59; refine HC.out.mono ?_; rintro e w1 ⟨rfl, hb1⟩; have HZ : Hid (w.heap.size < w1.heap.size) := Lib.hid (by have := hb1.size; simp at this; omega); have HR : Hid (∀ o, (w1.alloc o).heap[w.heap.size]? = some (.cells #[.int .i64 0, .int .i64 0, .int .i64 0, .int .i64 0, .int .i64 0, .int .i64 0, .int .i64 0, .int .i64 0, .int .i64 0, .int .i64 0, .bool false] 92 (0, 0))) := Lib.hid fun o => (Below.heap_alloc w1 o w.heap.size HZ.out).trans ((hb1.block w.heap.size (by simp)).trans (heap_alloc_new w _)); have HB1 := Lib.hid (HB0.out.trans (hb1.mono (by simp))); clear hb1)
    | (refine wpList_store_row rfl _ _ _ rfl w.heap.size _ rfl rfl 92 _ (HR.out _) size42i rfl (by simp [Value.oneCell']) ?_))
  exact bodyPost_ret (v := .agg #[.int .i64 a, .int .i64 b, .int .i64 0, .int .i64 0, .int .i64 0, .int .i64 0, .int .i64 0, .int .i64 0, .int .i64 1, .int .i64 nt, .bool true]) (results_cell_row (show Tryd.f58.results = #[.cell 4 92] by kernel_rfl) _ _ w.heap.size 92 _ _ _ rfl (setRow_heap _ _ _ _ _ _ (HR.out _)) Tryd.underlying92 rfl size42i) rfl ⟨rfl, below_setRow (HB1.out.alloc (Nat.le_of_lt HZ.out) _) (Nat.le_refl _) _⟩

theorem signed_2 (g0 : Nat) (nt a b c d : Int) (w : World) (h0 : w.cell? ⟨g0, 0, none⟩ = some (.int .i64 a)) (h1 : w.cell? ⟨g0, 1, none⟩ = some (.int .i64 b)) (h2 : w.cell? ⟨g0, 2, none⟩ = some (.int .i64 c)) (h3 : w.cell? ⟨g0, 3, none⟩ = some (.int .i64 d)) (hg : g0 < w.heap.size) :
    Calls Tryd.prog 58 #[.int .i64 nt, .slice (some ⟨g0, 0, none⟩) 2 2] w fun e w' => e = .returned (.agg #[.int .i64 a, .int .i64 b, .int .i64 c, .int .i64 d, .int .i64 0, .int .i64 0, .int .i64 0, .int .i64 0, .int .i64 2, .int .i64 nt, .bool true]) ∧ Below w.heap.size w w' := by
  have hb0 : Below w.heap.size w (w.alloc (.cells #[.int .i64 0, .int .i64 0, .int .i64 0, .int .i64 0, .int .i64 0, .int .i64 0, .int .i64 0, .int .i64 0, .int .i64 0, .int .i64 0, .bool false] 92)) := (Below.refl _ _).alloc (Nat.le_refl _) _
  have HC := Lib.hid (unsigned_2 g0 a b c d (w.alloc (.cells #[.int .i64 0, .int .i64 0, .int .i64 0, .int .i64 0, .int .i64 0, .int .i64 0, .int .i64 0, .int .i64 0, .int .i64 0, .int .i64 0, .bool false] 92)) ((hb0.cell (p := ⟨g0, 0, none⟩) hg).trans h0) ((hb0.cell (p := ⟨g0, 1, none⟩) hg).trans h1) ((hb0.cell (p := ⟨g0, 2, none⟩) hg).trans h2) ((hb0.cell (p := ⟨g0, 3, none⟩) hg).trans h3) (by simp; omega))
  have HB0 := Lib.hid hb0
  clear hb0
  go_enter Tryd.func58, Tryd.ntmps58
  go_wp2_with (first
    | (go_at_call 59; refine HC.out.mono ?_; rintro e w1 ⟨rfl, hb1⟩; have HZ : Hid (w.heap.size < w1.heap.size) := Lib.hid (by have := hb1.size; simp at this; omega); have HR : Hid (∀ o, (w1.alloc o).heap[w.heap.size]? = some (.cells #[.int .i64 0, .int .i64 0, .int .i64 0, .int .i64 0, .int .i64 0, .int .i64 0, .int .i64 0, .int .i64 0, .int .i64 0, .int .i64 0, .bool false] 92 (0, 0))) := Lib.hid fun o => (Below.heap_alloc w1 o w.heap.size HZ.out).trans ((hb1.block w.heap.size (by simp)).trans (heap_alloc_new w _)); have HB1 := Lib.hid (HB0.out.trans (hb1.mono (by simp))); clear hb1)
    | (refine wpList_store_row rfl _ _ _ rfl w.heap.size _ rfl rfl 92 _ (HR.out _) size42i rfl (by simp [Value.oneCell']) ?_))
  exact bodyPost_ret (v := .agg #[.int .i64 a, .int .i64 b, .int .i64 c, .int .i64 d, .int .i64 0, .int .i64 0, .int .i64 0, .int .i64 0, .int .i64 2, .int .i64 nt, .bool true]) (results_cell_row (show Tryd.f58.results = #[.cell 4 92] by kernel_rfl) _ _ w.heap.size 92 _ _ _ rfl (setRow_heap _ _ _ _ _ _ (HR.out _)) Tryd.underlying92 rfl size42i) rfl ⟨rfl, below_setRow (HB1.out.alloc (Nat.le_of_lt HZ.out) _) (Nat.le_refl _) _⟩

theorem signed_4 (g0 : Nat) (nt a b c d p q r s : Int) (w : World) (h0 : w.cell? ⟨g0, 0, none⟩ = some (.int .i64 a)) (h1 : w.cell? ⟨g0, 1, none⟩ = some (.int .i64 b)) (h2 : w.cell? ⟨g0, 2, none⟩ = some (.int .i64 c)) (h3 : w.cell? ⟨g0, 3, none⟩ = some (.int .i64 d)) (h4 : w.cell? ⟨g0, 4, none⟩ = some (.int .i64 p)) (h5 : w.cell? ⟨g0, 5, none⟩ = some (.int .i64 q)) (h6 : w.cell? ⟨g0, 6, none⟩ = some (.int .i64 r)) (h7 : w.cell? ⟨g0, 7, none⟩ = some (.int .i64 s)) (hg : g0 < w.heap.size) :
    Calls Tryd.prog 58 #[.int .i64 nt, .slice (some ⟨g0, 0, none⟩) 4 4] w fun e w' => e = .returned (.agg #[.int .i64 a, .int .i64 b, .int .i64 c, .int .i64 d, .int .i64 p, .int .i64 q, .int .i64 r, .int .i64 s, .int .i64 4, .int .i64 nt, .bool true]) ∧ Below w.heap.size w w' := by
  have hb0 : Below w.heap.size w (w.alloc (.cells #[.int .i64 0, .int .i64 0, .int .i64 0, .int .i64 0, .int .i64 0, .int .i64 0, .int .i64 0, .int .i64 0, .int .i64 0, .int .i64 0, .bool false] 92)) := (Below.refl _ _).alloc (Nat.le_refl _) _
  have HC := Lib.hid (unsigned_4 g0 a b c d p q r s (w.alloc (.cells #[.int .i64 0, .int .i64 0, .int .i64 0, .int .i64 0, .int .i64 0, .int .i64 0, .int .i64 0, .int .i64 0, .int .i64 0, .int .i64 0, .bool false] 92)) ((hb0.cell (p := ⟨g0, 0, none⟩) hg).trans h0) ((hb0.cell (p := ⟨g0, 1, none⟩) hg).trans h1) ((hb0.cell (p := ⟨g0, 2, none⟩) hg).trans h2) ((hb0.cell (p := ⟨g0, 3, none⟩) hg).trans h3) ((hb0.cell (p := ⟨g0, 4, none⟩) hg).trans h4) ((hb0.cell (p := ⟨g0, 5, none⟩) hg).trans h5) ((hb0.cell (p := ⟨g0, 6, none⟩) hg).trans h6) ((hb0.cell (p := ⟨g0, 7, none⟩) hg).trans h7) (by simp; omega))
  have HB0 := Lib.hid hb0
  clear hb0
  go_enter Tryd.func58, Tryd.ntmps58
  go_wp2_with (first
    | (go_at_call 59; refine HC.out.mono ?_; rintro e w1 ⟨rfl, hb1⟩; have HZ : Hid (w.heap.size < w1.heap.size) := Lib.hid (by have := hb1.size; simp at this; omega); have HR : Hid (∀ o, (w1.alloc o).heap[w.heap.size]? = some (.cells #[.int .i64 0, .int .i64 0, .int .i64 0, .int .i64 0, .int .i64 0, .int .i64 0, .int .i64 0, .int .i64 0, .int .i64 0, .int .i64 0, .bool false] 92 (0, 0))) := Lib.hid fun o => (Below.heap_alloc w1 o w.heap.size HZ.out).trans ((hb1.block w.heap.size (by simp)).trans (heap_alloc_new w _)); have HB1 := Lib.hid (HB0.out.trans (hb1.mono (by simp))); clear hb1)
    | (refine wpList_store_row rfl _ _ _ rfl w.heap.size _ rfl rfl 92 _ (HR.out _) size42i rfl (by simp [Value.oneCell']) ?_))
  exact bodyPost_ret (v := .agg #[.int .i64 a, .int .i64 b, .int .i64 c, .int .i64 d, .int .i64 p, .int .i64 q, .int .i64 r, .int .i64 s, .int .i64 4, .int .i64 nt, .bool true]) (results_cell_row (show Tryd.f58.results = #[.cell 4 92] by kernel_rfl) _ _ w.heap.size 92 _ _ _ rfl (setRow_heap _ _ _ _ _ _ (HR.out _)) Tryd.underlying92 rfl size42i) rfl ⟨rfl, below_setRow (HB1.out.alloc (Nat.le_of_lt HZ.out) _) (Nat.le_refl _) _⟩

end Go.Proofs.YtehlihhnkojjeaaDoor
