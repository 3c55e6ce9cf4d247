/- Layer 5: the document's plic in memory: 32 sources of six cells, two thresholds. -/
import Derived.Test.YtgimnkablodheaaDoorRows
import Derived.Test.YtgimnkablodheaaDoorOnly
import Derived.Test.YtgimnkablodheaaDoorArr
import Derived.Test.YtgimnkablodheaaDoorBv
import Derived.WalkLawsBesides
import Derived.BigQuiet
import Derived.Deep.QuietTactic
import Derived.Lib.Hide
namespace Go.Proofs.YtgimnkablodheaaDoor
open Go.RowKit
set_option linter.unusedVariables false

/-- A plic's state, by the source's number and the context's. -/
structure PS where
  prio : Nat → Int
  up : Nat → Bool
  pend : Nat → Bool
  busy : Nat → Bool
  on : Nat → Nat → Bool
  floor : Nat → Int
/-- The cells of a source. -/
def srcCell (t : PS) (s : Nat) : Nat → Value
  | 0 => .int .u64 (t.prio s)
  | 1 => .bool (t.up s)
  | 2 => .bool (t.pend s)
  | 3 => .bool (t.busy s)
  | 4 => .bool (t.on s 0)
  | _ => .bool (t.on s 1)
def cellR (t : PS) (i : Nat) : Value := if i < 192 then srcCell t (i / 6) (i % 6) else .int .u64 (t.floor (i - 192))
/-- The document's plic t stands in block b. -/
def RefP (w : World) (b : Nat) (t : PS) : Prop := w.heap[b]? = some (.cells (varr 194 (cellR t)) 45 (0, 0))
theorem RefP.lt {w : World} {b : Nat} {t : PS} (h : RefP w b t) : b < w.heap.size := (Array.getElem?_eq_some_iff.1 h).1
theorem RefP.below {w w' : World} {b : Nat} {t : PS} (h : RefP w b t) (o : Below w.heap.size w w') : RefP w' b t := (o.block b h.lt).trans h
theorem RefP.keeps {w w' : World} {b : Nat} {t : PS} {T : Nat → Prop} (h : RefP w b t) (o : Only T w w') (hb : ¬ T b) : RefP w' b t := o.keeps hb h
theorem cellR_src (t : PS) {s j : Nat} (hs : s < 32) (hj : j < 6) : cellR t (s * 6 + j) = srcCell t s j := by
  unfold cellR
  rw [if_pos (by omega), show (s * 6 + j) / 6 = s by omega, show (s * 6 + j) % 6 = j by omega]
theorem cellR_floor (t : PS) (c : Nat) : cellR t (192 + c) = .int .u64 (t.floor c) := by
  unfold cellR
  rw [if_neg (by omega), show 192 + c - 192 = c by omega]
theorem RefP.src {w : World} {b : Nat} {t : PS} (h : RefP w b t) {s j : Nat} (hs : s < 32) (hj : j < 6) : w.cell? ⟨b, s * 6 + j, none⟩ = some (srcCell t s j) := by
  rw [cell_of_row w b _ _ _ _ h, varr_get _ _ _ (by omega), cellR_src t hs hj]
theorem RefP.floor_ {w : World} {b : Nat} {t : PS} (h : RefP w b t) {c : Nat} (hc : c < 2) : w.cell? ⟨b, 192 + c, none⟩ = some (.int .u64 (t.floor c)) := by
  rw [cell_of_row w b _ _ _ _ h, varr_get _ _ _ (by omega), cellR_floor]
theorem RefP.free {w : World} {b : Nat} {t : PS} (h : RefP w b t) (k : Nat) : w.frozen? ⟨b, k, none⟩ = false := frozen_of_row w b k _ _ h
/-- One cell of a source turned. -/
theorem RefP.set {w : World} {b : Nat} {t t' : PS} (h : RefP w b t) {s j : Nat} (v : Value) (hs : s < 32) (hj : j < 6) (he : ∀ s' j', s' < 32 → j' < 6 → srcCell t' s' j' = if s' = s ∧ j' = j then v else srcCell t s' j') (hf : t'.floor = t.floor) :
    RefP (w.setCell ⟨b, s * 6 + j, none⟩ v) b t' := by
  unfold RefP
  rw [heap_setCell_same w b _ _ _ _ h, varr_set]
  have e : (varr 194 fun i => if i = s * 6 + j then v else cellR t i) = varr 194 (cellR t') := varr_congr fun i hi => by
    by_cases h1 : i < 192
    · have h2 : i = i / 6 * 6 + i % 6 := by omega
      have e1 : cellR t' i = srcCell t' (i / 6) (i % 6) := by unfold cellR; rw [if_pos h1]
      have e2 : cellR t i = srcCell t (i / 6) (i % 6) := by unfold cellR; rw [if_pos h1]
      rw [e1, e2, he _ _ (by omega) (by omega)]
      by_cases c : i = s * 6 + j
      · rw [if_pos c, if_pos ⟨by omega, by omega⟩]
      · rw [if_neg c, if_neg (by omega)]
    · rw [if_neg (by omega)]
      unfold cellR
      rw [if_neg h1, if_neg h1, hf]
  rw [e]

/-- One function turned at one place. -/
def upd {α : Type} (f : Nat → α) (k : Nat) (v : α) : Nat → α := fun i => if i = k then v else f i
theorem upd_same {α : Type} (f : Nat → α) (k : Nat) (v : α) : upd f k v k = v := by unfold upd; rw [if_pos rfl]
theorem upd_other {α : Type} (f : Nat → α) {k i : Nat} (v : α) (h : ¬ i = k) : upd f k v i = f i := by unfold upd; rw [if_neg h]

def isS (s : Int) : Bool := decide (1 ≤ s ∧ s ≤ 31)
theorem refIs_any (s : Int) (w : World) : Calls Tryd.prog 34 #[.int .i64 s] w fun e w' => e = .returned (.bool (isS s)) ∧ w = w' := by
  by_cases h1 : 1 ≤ s
  · by_cases h2 : s ≤ 31
    · have HE : Hid (true = isS s) := by
        refine Lib.hid ?_
        unfold isS; rw [decide_eq_true ⟨h1, h2⟩]
      go_enter Tryd.func34, Tryd.ntmps34
      go_wp2
      go_ret
      exact ⟨by rw [← HE.out]; rfl, rfl⟩
    · have HE : Hid (false = isS s) := by
        refine Lib.hid ?_
        unfold isS; symm; rw [decide_eq_false_iff_not]; omega
      go_enter Tryd.func34, Tryd.ntmps34
      go_wp2
      go_ret
      exact ⟨by rw [← HE.out]; rfl, rfl⟩
  · have HE : Hid (false = isS s) := by
      refine Lib.hid ?_
      unfold isS; symm; rw [decide_eq_false_iff_not]; omega
    go_enter Tryd.func34, Tryd.ntmps34
    go_wp2
    go_ret
    exact ⟨by rw [← HE.out]; rfl, rfl⟩

/-- To look at a source. -/
def lookP (t : PS) (s : Nat) : PS := if t.up s && !t.busy s then { t with pend := upd t.pend s true } else t
def SetP (w : World) (b : Nat) (t' : PS) (e : Ending) (w' : World) : Prop := (∃ u, e = .returned u) ∧ Only (fun i => i = b) w w' ∧ RefP w' b t'
set_option maxHeartbeats 1000000 in
theorem refLook_any (w : World) (b : Nat) (t : PS) (s : Nat) (h : RefP w b t) (hs : s < 32) :
    Calls Tryd.prog 37 #[.pointer (some ⟨b, 0, none⟩), .int .i64 s] w (SetP w b (lookP t s)) := by
  have c1 : w.cell? ⟨b, s * 6 + 1, none⟩ = some (.bool (t.up s)) := h.src hs (by omega)
  have c2 : w.cell? ⟨b, s * 6 + 2, none⟩ = some (.bool (t.pend s)) := h.src hs (by omega)
  have c3 : w.cell? ⟨b, s * 6 + 3, none⟩ = some (.bool (t.busy s)) := h.src hs (by omega)
  have f2 := h.free (s * 6 + 2)
  have i1 : (s : Int) < 32 := by omega
  have H := Lib.hid h
  clear h
  unfold lookP
  generalize hu : t.up s = u at *
  generalize hb : t.busy s = v at *
  clear hu hb
  cases u <;> cases v
  all_goals
    go_enter Tryd.func37, Tryd.ntmps37
    go_wp2
    go_end0
    first
      | exact ⟨⟨_, rfl⟩, Only.refl _ _, H.out⟩
      | exact ⟨⟨_, rfl⟩, (Only.refl (fun i => i = b) w).setCell (p := ⟨b, s * 6 + 2, none⟩) (.inl rfl) _, H.out.set _ hs (by omega) (fun s' j' _ _ => by
          by_cases c : s' = s ∧ j' = 2
          · obtain ⟨rfl, rfl⟩ := c; rw [if_pos ⟨rfl, rfl⟩]; simp [srcCell, upd_same]
          · rw [if_neg c]; match j' with
            | 0 => rfl
            | 1 => rfl
            | 2 => simp [srcCell, upd_other _ _ (fun e : s' = s => c ⟨e, rfl⟩)]
            | 3 => rfl
            | 4 => rfl
            | _ + 5 => rfl) rfl⟩

end Go.Proofs.YtgimnkablodheaaDoor
