/- A hart in memory: a cell of it turned. -/
import Derived.Test.YtkfhpmleelmcfaaHa
namespace Go.Proofs.Ytkfhpmleelmcfaa
open Go.RowKit
set_option linter.unusedVariables false
set_option maxRecDepth 100000

/-- One number of a hart turned. -/
def HS.put (t : HS) (k : Nat) (x : Int) : HS := { t with n := fun i => if i = k then x else t.n i }
def HS.putV (t : HS) (b : Bool) : HS := { t with v := b }
theorem HS.put_same (t : HS) (k : Nat) (x : Int) : (t.put k x).n k = x := if_pos rfl
theorem HS.put_other (t : HS) {k i : Nat} (x : Int) (h : ¬ i = k) : (t.put k x).n i = t.n i := if_neg h
theorem HOk.put {t : HS} (ok : HOk t) {k : Nat} {x : Int} (hx : In64 x) (hp : k = 33 → x < 256) : HOk (t.put k x) :=
  ⟨fun i => by unfold HS.put; show In64 (if i = k then x else t.n i); by_cases h : i = k <;> simp [h, hx, ok.n], by
    by_cases h : 33 = k
    · subst h; rw [HS.put_same]; exact hp rfl
    · rw [HS.put_other t x h]; exact ok.p⟩
theorem HOk.putV {t : HS} (ok : HOk t) (b : Bool) : HOk (t.putV b) := ⟨ok.n, ok.p⟩
theorem HartB.putU {w : World} {b : Nat} {t : HS} (h : HartB w b t) {k : Nat} (x : Int) (hk : k < 33 ∨ 36 < k) : HartB (w.setCell ⟨b, k, none⟩ (.int .u64 x)) b (t.put k x) := by
  unfold HartB
  rw [heap_setCell_same w b _ _ _ _ h, varr_set]
  refine congrArg (fun c => some (Obj.cells c 25 (0, 0))) (varr_congr fun i _ => ?_)
  by_cases e : i = k
  · subst e
    rw [if_pos rfl, hCell_u hk, HS.put_same]
  · rw [if_neg e]
    unfold hCell
    by_cases h1 : i = 33
    · rw [if_pos h1, if_pos h1, HS.put_other t x (by omega)]
    · rw [if_neg h1, if_neg h1, HS.put_other t x e]; rfl
theorem HartB.putP {w : World} {b : Nat} {t : HS} (h : HartB w b t) (x : Int) : HartB (w.setCell ⟨b, 33, none⟩ (.int .u8 x)) b (t.put 33 x) := by
  unfold HartB
  rw [heap_setCell_same w b _ _ _ _ h, varr_set]
  refine congrArg (fun c => some (Obj.cells c 25 (0, 0))) (varr_congr fun i _ => ?_)
  by_cases e : i = 33
  · subst e
    rw [if_pos rfl]; rfl
  · rw [if_neg e]
    unfold hCell
    rw [if_neg e, if_neg e, HS.put_other t x e]; rfl
theorem HartB.putVB {w : World} {b : Nat} {t : HS} (h : HartB w b t) (q : Bool) : HartB (w.setCell ⟨b, 34, none⟩ (.bool q)) b (t.putV q) := by
  unfold HartB
  rw [heap_setCell_same w b _ _ _ _ h, varr_set]
  refine congrArg (fun c => some (Obj.cells c 25 (0, 0))) (varr_congr fun i _ => ?_)
  by_cases e : i = 34
  · subst e
    rw [if_pos rfl]; rfl
  · rw [if_neg e]
    unfold hCell
    by_cases h1 : i = 33
    · rw [if_pos h1, if_pos h1]; rfl
    · rw [if_neg h1, if_neg h1, if_neg e, if_neg e]; rfl
end Go.Proofs.Ytkfhpmleelmcfaa
