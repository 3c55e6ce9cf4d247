/- Layer 9: a Decoder's once: the table is made, once. -/
import Derived.Test.YtehlihhnkojjeaaDoorOnA
import Derived.Test.YtehlihhnkojjeaaDoorOnC
namespace Go.Proofs.YtehlihhnkojjeaaDoor
open Go.RowKit
set_option linter.unusedVariables false
set_option maxRecDepth 100000

theorem Tbl.drew {w : World} {b B : Nat} {d s : Int} {K : Nat → Nat} {V : Nat → Value} {L : Nat → List Int} (h : Tbl w b B d s K V L) : Tbl w.drew b B d s K V L := ⟨h.obj, h.bB, h.rows, h.lab⟩
theorem Only.drew' {S : Nat → Prop} {a w : World} (h : Only S a w) : Only S a w.drew := ⟨h.os, h.tape, h.output, h.size, h.block⟩
/-- What the once leaves. -/
def OnceE (w : World) (b : Nat) (e : Ending) (w' : World) : Prop := e = .returned (.tuple #[]) ∧ Only (fun i => i = b) w w' ∧ ∃ K V, Tbl w' b w.heap.size 1 0 K V (lowL 114)
theorem once_end {w w2 : World} {b : Nat} {K : Nat → Nat} {V : Nat → Value} (h : Only (fun i => i = b) (w.setCell ⟨b, 1, none⟩ (.int .i32 1)) w2) (t : Tbl w2 b w.heap.size 0 1 K V (lowL 114)) :
    OnceE w b (.returned (.tuple #[])) ((w2.drew.setCell ⟨b, 0, none⟩ (.int .u32 1)).setCell ⟨b, 1, none⟩ (.int .i32 0)) := by
  have o : Only (fun i => i = b) w w2 := ((Only.refl (fun i => i = b) w).setCell (p := ⟨b, 1, none⟩) (.inl rfl) _).trans h
  exact ⟨rfl, (o.drew'.setCell (p := ⟨b, 0, none⟩) (.inl rfl) _).setCell (p := ⟨b, 1, none⟩) (.inl rfl) _, K, V, tbl_set1 (tbl_set0 t.drew 1) 0⟩
set_option maxHeartbeats 1600000 in
theorem slow_any (b : Nat) (K : Nat → Nat) (w : World) (h : Tbl w b w.heap.size 0 0 K (fun _ => .slice none 0 0) (fun _ => [])) :
    Calls Tryd.prog 47 #[.pointer (some ⟨b, 0, none⟩), .func (.func 30) #[.pointer (some ⟨b, 0, none⟩)] #[]] w (OnceE w b) := by
  have h0 : w.cell? ⟨b, 0, none⟩ = some (.int .u32 0) := h.cell (by omega)
  have h1 : w.cell? ⟨b, 1, none⟩ = some (.int .i32 0) := h.cell (by omega)
  have f0 := h.free 0
  have f1 := h.free 1
  have hs : (w.setCell ⟨b, 1, none⟩ (.int .i32 1)).heap.size = w.heap.size := World.size_setCell _ _ _
  have HT1 : Hid (Tbl (w.setCell ⟨b, 1, none⟩ (.int .i32 1)) b w.heap.size 0 1 K (fun _ => .slice none 0 0) (fun _ => [])) := Lib.hid (tbl_set1 h 1)
  have HFI : Hid (Calls Tryd.prog 30 #[.pointer (some ⟨b, 0, none⟩)] (w.setCell ⟨b, 1, none⟩ (.int .i32 1)) (FillE (w.setCell ⟨b, 1, none⟩ (.int .i32 1)) b 0 1)) := Lib.hid (fill_any _ b 0 1 K (by rw [hs]; exact HT1.out))
  have HS := Lib.hid hs
  clear hs h
  have hl := run_call_load (P := Tryd.prog) Tryd.func54 (by kernel_rfl) (by kernel_rfl) (by kernel_rfl) .u32 (by kernel_rfl) (w := w.setCell ⟨b, 1, none⟩ (.int .i32 1)) (a := ⟨b, 0, none⟩) (x := 0) ((World.cell?_setCell_other _ ⟨b, 1, none⟩ ⟨b, 0, none⟩ _ (by simp)).trans h0)
  have hnot : ∀ (x : Bool) (w : World), (Op.unary .not (.bool x)).run Tryd.prog w = .ok (.bool (!x)) w := fun _ _ => rfl
  go_enter_defers Tryd.func47, Tryd.ntmps47
  go_wp2_with (go_at_call 55; refine (lock_free ⟨b, 1, none⟩ _ (by go_simp) (by go_simp)).mono ?_; rintro e w' ⟨rfl, rfl⟩)
  go_wp2_with (first
    | (go_at_call 30; refine HFI.out.mono ?_; rintro e w2 ⟨rfl, ho, K2, V2, ht⟩; rw [HS.out] at ht; have HO := Lib.hid ho; have HTE := Lib.hid ht; clear ho ht)
    | (go_at_call 46; go_in))
  refine leaves_cons (f := 57) (args := #[.pointer (some ⟨b, 0, none⟩), .bool true]) (by simp) (by simp [go_sem]) ?_
  refine (store_deferred ⟨b, 0, none⟩ (.int .u32 0) .returning _ (HTE.out.cell (by omega)) (HTE.out.free 0)).mono ?_
  rintro e u' w3 ⟨rfl, rfl, rfl⟩
  refine leaves_cons (f := 56) (args := #[.pointer (some ⟨b, 1, none⟩)]) (by simp [settle]) (by simp [go_sem]) ?_
  refine (unlock_deferred ⟨b, 1, none⟩ _ _ ((tbl_set0 HTE.out.drew 1).cell (by omega)) ((tbl_set0 HTE.out.drew 1).free 1)).mono ?_
  rintro e u' w4 ⟨rfl, rfl, rfl⟩
  have HE := once_end HO.out HTE.out
  simp [Leaves, settle, results, Tryd.results47]
  exact HE

theorem do_first (b : Nat) (K : Nat → Nat) (w : World) (h : Tbl w b w.heap.size 0 0 K (fun _ => .slice none 0 0) (fun _ => [])) :
    Calls Tryd.prog 29 #[.pointer (some ⟨b, 0, none⟩), .func (.func 30) #[.pointer (some ⟨b, 0, none⟩)] #[]] w (OnceE w b) := by
  have h0 : w.cell? ⟨b, 0, none⟩ = some (.int .u32 0) := h.cell (by omega)
  have HS := Lib.hid (slow_any b K w h)
  clear h
  have hl := run_call_load (P := Tryd.prog) Tryd.func54 (by kernel_rfl) (by kernel_rfl) (by kernel_rfl) .u32 (by kernel_rfl) h0
  have hnot : ∀ (x : Bool) (w : World), (Op.unary .not (.bool x)).run Tryd.prog w = .ok (.bool (!x)) w := fun _ _ => rfl
  go_enter Tryd.func29, Tryd.ntmps29
  go_wp2_with (first | (go_at_call 47; refine HS.out.mono ?_; rintro e w' ⟨rfl, hoe⟩; have HOE := Lib.hid hoe; clear hoe) | (go_at_call 46; go_in))
  go_end0
  exact ⟨rfl, HOE.out⟩
theorem do_done (b : Nat) (fv : Value) (w : World) (h0 : w.cell? ⟨b, 0, none⟩ = some (.int .u32 1)) :
    Calls Tryd.prog 29 #[.pointer (some ⟨b, 0, none⟩), fv] w fun e w' => e = .returned (.tuple #[]) ∧ w = w' := by
  have hl := run_call_load (P := Tryd.prog) Tryd.func54 (by kernel_rfl) (by kernel_rfl) (by kernel_rfl) .u32 (by kernel_rfl) h0
  have hnot : ∀ (x : Bool) (w : World), (Op.unary .not (.bool x)).run Tryd.prog w = .ok (.bool (!x)) w := fun _ _ => rfl
  go_enter Tryd.func29, Tryd.ntmps29
  go_wp2
  go_end0
  exact ⟨rfl, rfl⟩

end Go.Proofs.YtehlihhnkojjeaaDoor
