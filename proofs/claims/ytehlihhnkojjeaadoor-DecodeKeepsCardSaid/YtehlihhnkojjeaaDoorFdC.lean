/- The contract of a layout's word. -/
import Derived.Test.YtehlihhnkojjeaaDoorFdB
namespace Go.Proofs.YtehlihhnkojjeaaDoor
open Go.RowKit
set_option linter.unusedVariables false

set_option maxRecDepth 100000 in
theorem word_any (L : Lay) (hL : L.Ok) (n : Int) (w : World) :
    Calls Tryd.prog 53 #[L.val, .int .i64 n] w fun e w' => e = .returned (.int .u32 (L.word n)) ∧ Below w.heap.size w w' := by
  unfold Lay.val
  have h4 := hL.four
  have h1 := hL.one
  have h12 := hL.nt12
  have H0 : Hid (LayAt L w.heap.size (w.alloc (.cells L.cells 92))) := Lib.hid (heap_alloc_new w _)
  go_enter Tryd.func53, Tryd.ntmps53
  go_wp2
  go_loopw [1, 5, 6] (fun r v i wr => ∃ k : Nat, k ≤ L.ps.length ∧ i = .int .i64 ((k : Int) - 1) ∧ r = .int .i64 (L.rest n (L.ps.length - k)) ∧ v = .int .u32 (L.put n (L.ps.length - k)) ∧ LayAt L w.heap.size wr ∧ Below w.heap.size w wr) (fun _ _ i _ => (intOf i + 1).toNat)
  case atStart =>
    refine ⟨L.ps.length, by omega, rfl, by rw [Nat.sub_self]; rfl, by rw [Nat.sub_self]; rfl, H0.out, (Below.refl _ _).alloc (Nat.le_refl _) _⟩
  case round =>
    obtain ⟨k, hk, rfl, rfl, rfl, hR, hb⟩ := hrel
    cases k with
    | succ k =>
      rw [show ((k + 1 : Nat) : Int) - 1 = (k : Int) by omega]
      have hlt : k < L.ps.length := by omega
      obtain ⟨c0, c1⟩ := hR.piece (show k < 4 by omega)
      obtain ⟨g1, g2, g3⟩ := hL.in31 k hlt
      have hsz := hb.size
      have he := L.put_at n hlt
      rw [← show IntKind.i64.wrap (L.h k - L.l k) = L.h k - L.l k by rw [wrap_i64, wrap64_id (by omega) (by omega)]] at he
      have HE := Lib.hid he
      clear he
      have HF := Lib.hid (L.rest_at n hlt)
      have hg : -1000 ≤ L.h k ∧ L.h k ≤ 1000 ∧ -1000 ≤ L.l k ∧ L.l k ≤ 1000 := by omega
      generalize L.rest n (L.ps.length - (k + 1)) = r at *
      generalize L.put n (L.ps.length - (k + 1)) = v at *
      go_wp2
      have d0 : (wr.alloc (Obj.cells #[Value.int IntKind.i64 (L.h k), Value.int IntKind.i64 (L.l k)] 89)).cell? ⟨wr.heap.size, 0, none⟩ = some (.int .i64 (L.h k)) := World.cell?_alloc_at _ _ _ _ rfl
      have d1 : (wr.alloc (Obj.cells #[Value.int IntKind.i64 (L.h k), Value.int IntKind.i64 (L.l k)] 89)).cell? ⟨wr.heap.size, 1, none⟩ = some (.int .i64 (L.l k)) := World.cell?_alloc_at _ _ _ _ rfl
      have hB' := (Below.refl wr.heap.size wr).alloc (Nat.le_refl _) (Obj.cells #[Value.int IntKind.i64 (L.h k), Value.int IntKind.i64 (L.l k)] 89)
      have HR := Lib.hid (hR.below hB' hR.lt)
      have HB := Lib.hid (hb.trans (hB'.mono hsz))
      have HZ : Hid (w.heap.size ≤ (wr.alloc (Obj.cells #[Value.int IntKind.i64 (L.h k), Value.int IntKind.i64 (L.l k)] 89)).heap.size ∧ wr.heap.size < (wr.alloc (Obj.cells #[Value.int IntKind.i64 (L.h k), Value.int IntKind.i64 (L.l k)] 89)).heap.size ∧ w.heap.size < (wr.alloc (Obj.cells #[Value.int IntKind.i64 (L.h k), Value.int IntKind.i64 (L.l k)] 89)).heap.size) := Lib.hid (by have := hR.lt; simp; omega)
      have HG := Lib.hid hg
      clear hB' c0 c1 hb hR hg
      generalize wr.heap.size = B at *
      generalize (wr.alloc (Obj.cells #[Value.int IntKind.i64 (L.h k), Value.int IntKind.i64 (L.l k)] 89)) = w2 at *
      go_region_held3 (fun w' => w'.cell? ⟨B, 0, none⟩ = some (.int .i64 (L.h k)) ∧ w'.cell? ⟨B, 1, none⟩ = some (.int .i64 (L.l k))) (go_keep)
        (first
          | (go_at_call 60; refine (length_any (L.h k) (L.l k) HG.out _).mono ?_; rintro e w3 ⟨rfl, hb3⟩; have e0 := (hb3.cell (p := ⟨B, 0, none⟩) HZ.out.2.1).trans d0; have e1 := (hb3.cell (p := ⟨B, 1, none⟩) HZ.out.2.1).trans d1)
          | (go_at_call 36; refine (field_any _ _ _ _).mono ?_; rintro e w4 ⟨rfl, rfl⟩))
      rename (_ ∧ _) => hheld
      rw [← HE.out]
      have HB3 := Lib.hid (HB.out.trans ((Below.refl _ _).drew.trans (hb3.mono (Nat.le_refl _)) |>.mono HZ.out.1))
      have HR3 := Lib.hid (HR.out.below ((Below.refl _ _).drew.trans hb3) HZ.out.2.2)
      have HZ3 : Hid (w.heap.size ≤ w3.heap.size) := Lib.hid HB3.out.size
      clear hheld d0 d1 hb3
      go_wp2_with (go_at_call 60; refine (length_any (L.h k) (L.l k) HG.out _).mono ?_; rintro e w5 ⟨rfl, hb5⟩)
      go_roundw
      case rel => exact ⟨k, by omega, rfl, by rw [HF.out], rfl, HR3.out.below hb5 HR3.out.lt, HB3.out.trans (hb5.mono HZ3.out)⟩
      case measure => simp [intOf]
    | zero =>
      go_wp2
      go_ret
      exact ⟨rfl, hb⟩

end Go.Proofs.YtehlihhnkojjeaaDoor
