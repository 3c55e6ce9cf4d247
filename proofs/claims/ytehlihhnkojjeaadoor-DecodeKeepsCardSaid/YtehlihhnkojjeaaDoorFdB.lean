/- The contracts of a layout's number and word. -/
import Derived.Test.YtehlihhnkojjeaaDoorFdA
import Derived.Deep.RegionHeld3
import Derived.IntWalk
namespace Go.Proofs.YtehlihhnkojjeaaDoor
open Go.RowKit
set_option linter.unusedVariables false

def Lay.val (L : Lay) : Value := .agg #[.int .i64 (L.h 0), .int .i64 (L.l 0), .int .i64 (L.h 1), .int .i64 (L.l 1), .int .i64 (L.h 2), .int .i64 (L.l 2), .int .i64 (L.h 3), .int .i64 (L.l 3), .int .i64 L.ps.length, .int .i64 L.nt, .bool L.sg]

theorem size39 (w : World) : (sizeOf 89).run Tryd.prog w = .ok 2 w := by kernel_rfl
theorem slice_count (g h : Nat) (hh : h ≤ 4) (w : World) :
    (Instr.sliceAt 90 (.pointer (some ⟨g, 0, none⟩)) none (some (.int .i64 h)) none).run Tryd.prog w = .ok (.slice (some ⟨g, 0, none⟩) h 4) w := by
  have hs := size39 w
  have e2 : (⟨g, 0, none⟩ : Addr).add 0 = ⟨g, 0, none⟩ := by unfold Addr.add; simp
  simp [Instr.sliceAt, run_underlying Tryd.underlying90, Instr.sureAddr, Instr.sliceBounds, Instr.sliceBound, asIntOf, hs, e2, hh, Result.andThen]

def Lay.cells (L : Lay) : Array Value := #[.int .i64 (L.h 0), .int .i64 (L.l 0), .int .i64 (L.h 1), .int .i64 (L.l 1), .int .i64 (L.h 2), .int .i64 (L.l 2), .int .i64 (L.h 3), .int .i64 (L.l 3), .int .i64 L.ps.length, .int .i64 L.nt, .bool L.sg]
/-- The layout stands in block b. -/
def LayAt (L : Lay) (b : Nat) (w : World) : Prop := w.heap[b]? = some (.cells L.cells 92 (0, 0))
theorem LayAt.cell {L : Lay} {b : Nat} {w : World} (h : LayAt L b w) {o : Nat} {v : Value} (hv : L.cells[o]? = some v) : w.cell? ⟨b, o, none⟩ = some v := by
  rw [cell_of_row w b o _ 92 (0, 0) h]; exact hv
theorem LayAt.piece {L : Lay} {b : Nat} {w : World} (h : LayAt L b w) {k : Nat} (hk : k < 4) : w.cell? ⟨b, k * 2, none⟩ = some (.int .i64 (L.h k)) ∧ w.cell? ⟨b, k * 2 + 1, none⟩ = some (.int .i64 (L.l k)) := by
  match k, hk with
  | 0, _ => exact ⟨h.cell rfl, h.cell rfl⟩
  | 1, _ => exact ⟨h.cell rfl, h.cell rfl⟩
  | 2, _ => exact ⟨h.cell rfl, h.cell rfl⟩
  | 3, _ => exact ⟨h.cell rfl, h.cell rfl⟩
theorem LayAt.lt {L : Lay} {b : Nat} {w : World} (h : LayAt L b w) : b < w.heap.size := (Array.getElem?_eq_some_iff.1 h).1
theorem LayAt.below {L : Lay} {b B : Nat} {w w' : World} (h : LayAt L b w) (hb : Below B w w') (hB : b < B) : LayAt L b w' := by
  unfold LayAt at *; rw [hb.block b hB]; exact h

set_option maxRecDepth 100000 in
theorem number_un (L : Lay) (hL : L.Ok) (x : Int) (hs : L.sg = false) (w : World) :
    Calls Tryd.prog 49 #[L.val, .int .u32 x] w fun e w' => e = .returned (.int .i64 (L.number x)) ∧ Below w.heap.size w w' := by
  unfold Lay.val
  have h4 := hL.four
  have h1 := hL.one
  have h12 := hL.nt12
  have HS := fun w : World => slice_count w.heap.size L.ps.length h4
  have H0 : Hid (LayAt L w.heap.size (w.alloc (.cells L.cells 92))) := Lib.hid (heap_alloc_new w _)
  have HN : Hid (L.num x 0 = 0) := Lib.hid (by show (if L.neg x then (-1 : Int) else 0) = 0; unfold Lay.neg; rw [hs]; rfl)
  rw [hs]
  go_enter Tryd.func49, Tryd.ntmps49
  go_wp2_with (go_at_call 36; refine (field_any _ _ _ _).mono ?_; rintro e w4 ⟨rfl, rfl⟩)
  go_loopw [5, 27] (fun v i wr => ∃ k : Nat, k ≤ L.ps.length ∧ i = .int .i64 k ∧ v = .int .i64 (L.num x k) ∧ LayAt L w.heap.size wr ∧ Below w.heap.size w wr) (fun _ i _ => L.ps.length - (intOf i).toNat)
  case atStart =>
    refine ⟨0, by omega, rfl, ?_, ?_, (Below.refl _ _).alloc (Nat.le_refl _) _⟩
    · rw [HN.out]
    · have := H0.out; unfold Lay.cells at this; rw [hs] at this; exact this
  case round =>
    obtain ⟨k, hk, rfl, rfl, hR, hb⟩ := hrel
    by_cases hlt : k < L.ps.length
    · obtain ⟨c0, c1⟩ := hR.piece (show k < 4 by omega)
      obtain ⟨g1, g2, g3⟩ := hL.in31 k hlt
      have hsz := hb.size
      have HE := Lib.hid (Lay.step hL (x := x) hlt)
      have hg : -1000 ≤ L.h k ∧ L.h k ≤ 1000 ∧ -1000 ≤ L.l k ∧ L.l k ≤ 1000 := by omega
      go_wp2
      have d0 : (wr.alloc (Obj.cells #[Value.int IntKind.i64 (L.h k), Value.int IntKind.i64 (L.l k)] 89)).cell? ⟨wr.heap.size, 0, none⟩ = some (.int .i64 (L.h k)) := World.cell?_alloc_at _ _ _ _ rfl
      have d1 : (wr.alloc (Obj.cells #[Value.int IntKind.i64 (L.h k), Value.int IntKind.i64 (L.l k)] 89)).cell? ⟨wr.heap.size, 1, none⟩ = some (.int .i64 (L.l k)) := World.cell?_alloc_at _ _ _ _ rfl
      have hB' := (Below.refl wr.heap.size wr).alloc (Nat.le_refl _) (Obj.cells #[Value.int IntKind.i64 (L.h k), Value.int IntKind.i64 (L.l k)] 89)
      have HR := Lib.hid (hR.below hB' hR.lt)
      have HB := Lib.hid (hb.trans (hB'.mono hsz))
      have HZ : Hid (w.heap.size ≤ (wr.alloc (Obj.cells #[Value.int IntKind.i64 (L.h k), Value.int IntKind.i64 (L.l k)] 89)).heap.size ∧ wr.heap.size < (wr.alloc (Obj.cells #[Value.int IntKind.i64 (L.h k), Value.int IntKind.i64 (L.l k)] 89)).heap.size ∧ w.heap.size < (wr.alloc (Obj.cells #[Value.int IntKind.i64 (L.h k), Value.int IntKind.i64 (L.l k)] 89)).heap.size) := Lib.hid (by have := hR.lt; simp; omega)
      have HG := Lib.hid hg
      clear hB' c0 c1 hb hR hg
      generalize wr.heap.size = B at *
      generalize (wr.alloc (Obj.cells #[Value.int IntKind.i64 (L.h k), Value.int IntKind.i64 (L.l k)] 89)) = w2 at *
      go_region_held3 (fun w' => w'.cell? ⟨B, 0, none⟩ = some (.int .i64 (L.h k)) ∧ w'.cell? ⟨B, 1, none⟩ = some (.int .i64 (L.l k))) (go_keep)
        (first
          | (go_at_call 60; refine (length_any (L.h k) (L.l k) HG.out _).mono ?_; rintro e w3 ⟨rfl, hb3⟩; have e0 := (hb3.cell (p := ⟨B, 0, none⟩) HZ.out.2.1).trans d0; have e1 := (hb3.cell (p := ⟨B, 1, none⟩) HZ.out.2.1).trans d1)
          | (go_at_call 36; refine (field_any _ _ _ _).mono ?_; rintro e w4 ⟨rfl, rfl⟩))
      rename (_ ∧ _) => hheld
      rw [HE.out]
      have HB3 := Lib.hid (HB.out.trans ((Below.refl _ _).drew.trans (hb3.mono (Nat.le_refl _)) |>.mono HZ.out.1))
      have HR3 := Lib.hid (HR.out.below ((Below.refl _ _).drew.trans hb3) HZ.out.2.2)
      clear hheld e0 e1 d0 d1 hb3
      go_wp2
      go_roundw
      case rel => exact ⟨k + 1, by omega, by go_num, rfl, HR3.out, HB3.out⟩
      case measure => simp [intOf]; omega
    · obtain rfl : k = L.ps.length := by omega
      have c9 := hR.cell (o := 9) (v := .int .i64 L.nt) rfl
      go_wp2
      go_ret
      exact ⟨ret_int (Lay.last hL x), hb⟩

set_option maxRecDepth 100000 in
theorem number_pos (L : Lay) (hL : L.Ok) (x : Int) (hs : L.sg = true) (hn : (fldZ x (L.h 0) (L.h 0) == 1) = false) (w : World) :
    Calls Tryd.prog 49 #[L.val, .int .u32 x] w fun e w' => e = .returned (.int .i64 (L.number x)) ∧ Below w.heap.size w w' := by
  unfold Lay.val
  have h4 := hL.four
  have h1 := hL.one
  have h12 := hL.nt12
  have HS := fun w : World => slice_count w.heap.size L.ps.length h4
  have H0 : Hid (LayAt L w.heap.size (w.alloc (.cells L.cells 92))) := Lib.hid (heap_alloc_new w _)
  have HN : Hid (L.num x 0 = 0) := Lib.hid (by show (if L.neg x then (-1 : Int) else 0) = 0; unfold Lay.neg; rw [hs, hn]; rfl)
  rw [hs]
  go_enter Tryd.func49, Tryd.ntmps49
  go_wp2_with (go_at_call 36; refine (field_any _ _ _ _).mono ?_; rintro e w4 ⟨rfl, rfl⟩)
  go_loopw [5, 27] (fun v i wr => ∃ k : Nat, k ≤ L.ps.length ∧ i = .int .i64 k ∧ v = .int .i64 (L.num x k) ∧ LayAt L w.heap.size wr ∧ Below w.heap.size w wr) (fun _ i _ => L.ps.length - (intOf i).toNat)
  case atStart =>
    refine ⟨0, by omega, rfl, ?_, ?_, (Below.refl _ _).alloc (Nat.le_refl _) _⟩
    · rw [HN.out]
    · have := H0.out; unfold Lay.cells at this; rw [hs] at this; exact this
  case round =>
    obtain ⟨k, hk, rfl, rfl, hR, hb⟩ := hrel
    by_cases hlt : k < L.ps.length
    · obtain ⟨c0, c1⟩ := hR.piece (show k < 4 by omega)
      obtain ⟨g1, g2, g3⟩ := hL.in31 k hlt
      have hsz := hb.size
      have HE := Lib.hid (Lay.step hL (x := x) hlt)
      have hg : -1000 ≤ L.h k ∧ L.h k ≤ 1000 ∧ -1000 ≤ L.l k ∧ L.l k ≤ 1000 := by omega
      go_wp2
      have d0 : (wr.alloc (Obj.cells #[Value.int IntKind.i64 (L.h k), Value.int IntKind.i64 (L.l k)] 89)).cell? ⟨wr.heap.size, 0, none⟩ = some (.int .i64 (L.h k)) := World.cell?_alloc_at _ _ _ _ rfl
      have d1 : (wr.alloc (Obj.cells #[Value.int IntKind.i64 (L.h k), Value.int IntKind.i64 (L.l k)] 89)).cell? ⟨wr.heap.size, 1, none⟩ = some (.int .i64 (L.l k)) := World.cell?_alloc_at _ _ _ _ rfl
      have hB' := (Below.refl wr.heap.size wr).alloc (Nat.le_refl _) (Obj.cells #[Value.int IntKind.i64 (L.h k), Value.int IntKind.i64 (L.l k)] 89)
      have HR := Lib.hid (hR.below hB' hR.lt)
      have HB := Lib.hid (hb.trans (hB'.mono hsz))
      have HZ : Hid (w.heap.size ≤ (wr.alloc (Obj.cells #[Value.int IntKind.i64 (L.h k), Value.int IntKind.i64 (L.l k)] 89)).heap.size ∧ wr.heap.size < (wr.alloc (Obj.cells #[Value.int IntKind.i64 (L.h k), Value.int IntKind.i64 (L.l k)] 89)).heap.size ∧ w.heap.size < (wr.alloc (Obj.cells #[Value.int IntKind.i64 (L.h k), Value.int IntKind.i64 (L.l k)] 89)).heap.size) := Lib.hid (by have := hR.lt; simp; omega)
      have HG := Lib.hid hg
      clear hB' c0 c1 hb hR hg
      generalize wr.heap.size = B at *
      generalize (wr.alloc (Obj.cells #[Value.int IntKind.i64 (L.h k), Value.int IntKind.i64 (L.l k)] 89)) = w2 at *
      go_region_held3 (fun w' => w'.cell? ⟨B, 0, none⟩ = some (.int .i64 (L.h k)) ∧ w'.cell? ⟨B, 1, none⟩ = some (.int .i64 (L.l k))) (go_keep)
        (first
          | (go_at_call 60; refine (length_any (L.h k) (L.l k) HG.out _).mono ?_; rintro e w3 ⟨rfl, hb3⟩; have e0 := (hb3.cell (p := ⟨B, 0, none⟩) HZ.out.2.1).trans d0; have e1 := (hb3.cell (p := ⟨B, 1, none⟩) HZ.out.2.1).trans d1)
          | (go_at_call 36; refine (field_any _ _ _ _).mono ?_; rintro e w4 ⟨rfl, rfl⟩))
      rename (_ ∧ _) => hheld
      rw [HE.out]
      have HB3 := Lib.hid (HB.out.trans ((Below.refl _ _).drew.trans (hb3.mono (Nat.le_refl _)) |>.mono HZ.out.1))
      have HR3 := Lib.hid (HR.out.below ((Below.refl _ _).drew.trans hb3) HZ.out.2.2)
      clear hheld e0 e1 d0 d1 hb3
      go_wp2
      go_roundw
      case rel => exact ⟨k + 1, by omega, by go_num, rfl, HR3.out, HB3.out⟩
      case measure => simp [intOf]; omega
    · obtain rfl : k = L.ps.length := by omega
      have c9 := hR.cell (o := 9) (v := .int .i64 L.nt) rfl
      go_wp2
      go_ret
      exact ⟨ret_int (Lay.last hL x), hb⟩

set_option maxRecDepth 100000 in
theorem number_neg (L : Lay) (hL : L.Ok) (x : Int) (hs : L.sg = true) (hn : (fldZ x (L.h 0) (L.h 0) == 1) = true) (w : World) :
    Calls Tryd.prog 49 #[L.val, .int .u32 x] w fun e w' => e = .returned (.int .i64 (L.number x)) ∧ Below w.heap.size w w' := by
  unfold Lay.val
  have h4 := hL.four
  have h1 := hL.one
  have h12 := hL.nt12
  have HS := fun w : World => slice_count w.heap.size L.ps.length h4
  have H0 : Hid (LayAt L w.heap.size (w.alloc (.cells L.cells 92))) := Lib.hid (heap_alloc_new w _)
  have HN : Hid (L.num x 0 = -1) := Lib.hid (by show (if L.neg x then (-1 : Int) else 0) = -1; unfold Lay.neg; rw [hs, hn]; rfl)
  rw [hs]
  go_enter Tryd.func49, Tryd.ntmps49
  go_wp2_with (go_at_call 36; refine (field_any _ _ _ _).mono ?_; rintro e w4 ⟨rfl, rfl⟩)
  go_loopw [5, 27] (fun v i wr => ∃ k : Nat, k ≤ L.ps.length ∧ i = .int .i64 k ∧ v = .int .i64 (L.num x k) ∧ LayAt L w.heap.size wr ∧ Below w.heap.size w wr) (fun _ i _ => L.ps.length - (intOf i).toNat)
  case atStart =>
    refine ⟨0, by omega, rfl, ?_, ?_, (Below.refl _ _).alloc (Nat.le_refl _) _⟩
    · rw [HN.out]
    · have := H0.out; unfold Lay.cells at this; rw [hs] at this; exact this
  case round =>
    obtain ⟨k, hk, rfl, rfl, hR, hb⟩ := hrel
    by_cases hlt : k < L.ps.length
    · obtain ⟨c0, c1⟩ := hR.piece (show k < 4 by omega)
      obtain ⟨g1, g2, g3⟩ := hL.in31 k hlt
      have hsz := hb.size
      have HE := Lib.hid (Lay.step hL (x := x) hlt)
      have hg : -1000 ≤ L.h k ∧ L.h k ≤ 1000 ∧ -1000 ≤ L.l k ∧ L.l k ≤ 1000 := by omega
      go_wp2
      have d0 : (wr.alloc (Obj.cells #[Value.int IntKind.i64 (L.h k), Value.int IntKind.i64 (L.l k)] 89)).cell? ⟨wr.heap.size, 0, none⟩ = some (.int .i64 (L.h k)) := World.cell?_alloc_at _ _ _ _ rfl
      have d1 : (wr.alloc (Obj.cells #[Value.int IntKind.i64 (L.h k), Value.int IntKind.i64 (L.l k)] 89)).cell? ⟨wr.heap.size, 1, none⟩ = some (.int .i64 (L.l k)) := World.cell?_alloc_at _ _ _ _ rfl
      have hB' := (Below.refl wr.heap.size wr).alloc (Nat.le_refl _) (Obj.cells #[Value.int IntKind.i64 (L.h k), Value.int IntKind.i64 (L.l k)] 89)
      have HR := Lib.hid (hR.below hB' hR.lt)
      have HB := Lib.hid (hb.trans (hB'.mono hsz))
      have HZ : Hid (w.heap.size ≤ (wr.alloc (Obj.cells #[Value.int IntKind.i64 (L.h k), Value.int IntKind.i64 (L.l k)] 89)).heap.size ∧ wr.heap.size < (wr.alloc (Obj.cells #[Value.int IntKind.i64 (L.h k), Value.int IntKind.i64 (L.l k)] 89)).heap.size ∧ w.heap.size < (wr.alloc (Obj.cells #[Value.int IntKind.i64 (L.h k), Value.int IntKind.i64 (L.l k)] 89)).heap.size) := Lib.hid (by have := hR.lt; simp; omega)
      have HG := Lib.hid hg
      clear hB' c0 c1 hb hR hg
      generalize wr.heap.size = B at *
      generalize (wr.alloc (Obj.cells #[Value.int IntKind.i64 (L.h k), Value.int IntKind.i64 (L.l k)] 89)) = w2 at *
      go_region_held3 (fun w' => w'.cell? ⟨B, 0, none⟩ = some (.int .i64 (L.h k)) ∧ w'.cell? ⟨B, 1, none⟩ = some (.int .i64 (L.l k))) (go_keep)
        (first
          | (go_at_call 60; refine (length_any (L.h k) (L.l k) HG.out _).mono ?_; rintro e w3 ⟨rfl, hb3⟩; have e0 := (hb3.cell (p := ⟨B, 0, none⟩) HZ.out.2.1).trans d0; have e1 := (hb3.cell (p := ⟨B, 1, none⟩) HZ.out.2.1).trans d1)
          | (go_at_call 36; refine (field_any _ _ _ _).mono ?_; rintro e w4 ⟨rfl, rfl⟩))
      rename (_ ∧ _) => hheld
      rw [HE.out]
      have HB3 := Lib.hid (HB.out.trans ((Below.refl _ _).drew.trans (hb3.mono (Nat.le_refl _)) |>.mono HZ.out.1))
      have HR3 := Lib.hid (HR.out.below ((Below.refl _ _).drew.trans hb3) HZ.out.2.2)
      clear hheld e0 e1 d0 d1 hb3
      go_wp2
      go_roundw
      case rel => exact ⟨k + 1, by omega, by go_num, rfl, HR3.out, HB3.out⟩
      case measure => simp [intOf]; omega
    · obtain rfl : k = L.ps.length := by omega
      have c9 := hR.cell (o := 9) (v := .int .i64 L.nt) rfl
      go_wp2
      go_ret
      exact ⟨ret_int (Lay.last hL x), hb⟩

theorem number_any (L : Lay) (hL : L.Ok) (x : Int) (w : World) :
    Calls Tryd.prog 49 #[L.val, .int .u32 x] w fun e w' => e = .returned (.int .i64 (L.number x)) ∧ Below w.heap.size w w' := by
  cases hs : L.sg
  · exact number_un L hL x hs w
  · cases hn : (fldZ x (L.h 0) (L.h 0) == 1)
    · exact number_pos L hL x hs hn w
    · exact number_neg L hL x hs hn w

end Go.Proofs.YtehlihhnkojjeaaDoor
