/- Layer 5: the program's plic in memory: three words of bits, priorities, what is enabled, thresholds; its small calls. -/
import Derived.Test.YtgimnkablodheaaDoorPlN
import Derived.Test.YtgimnkablodheaaDoorOfBits
import Derived.StillTailTactics
import Derived.Deep.RegionLaw
namespace Go.Proofs.YtgimnkablodheaaDoor
open Go.RowKit
set_option linter.unusedVariables false

/-- What is always so of a plic. -/
structure PS.ok (t : PS) : Prop where
  prio0 : t.prio 0 = 0
  on0 : ∀ c, t.on 0 c = false
  pend0 : t.pend 0 = false
  up0 : t.up 0 = false
  pr : ∀ s, 0 ≤ t.prio s ∧ t.prio s < 8
  fl : ∀ c, 0 ≤ t.floor c ∧ t.floor c < 8
def cellQ (t : PS) (i : Nat) : Value :=
  if i = 0 then .int .u32 (bits32 t.up) else if i = 1 then .int .u32 (bits32 t.pend) else if i = 2 then .int .u32 (bits32 t.busy)
  else if i < 35 then .int .u8 (t.prio (i - 3)) else if i < 37 then .int .u32 (bits32 fun s => t.on s (i - 35)) else .int .u8 (t.floor (i - 37))
/-- The program's plic t stands in block b. -/
def ProgP (w : World) (b : Nat) (t : PS) : Prop := w.heap[b]? = some (.cells (varr 39 (cellQ t)) 27 (0, 0)) ∧ t.ok
theorem ProgP.lt {w : World} {b : Nat} {t : PS} (h : ProgP w b t) : b < w.heap.size := (Array.getElem?_eq_some_iff.1 h.1).1
theorem ProgP.below {w w' : World} {b : Nat} {t : PS} (h : ProgP w b t) (o : Below w.heap.size w w') : ProgP w' b t := ⟨(o.block b h.lt).trans h.1, h.2⟩
theorem ProgP.keeps {w w' : World} {b : Nat} {t : PS} {T : Nat → Prop} (h : ProgP w b t) (o : Only T w w') (hb : ¬ T b) : ProgP w' b t := ⟨o.keeps hb h.1, h.2⟩
theorem ProgP.free {w : World} {b : Nat} {t : PS} (h : ProgP w b t) (k : Nat) : w.frozen? ⟨b, k, none⟩ = false := frozen_of_row w b k _ _ h.1
theorem ProgP.cell {w : World} {b : Nat} {t : PS} (h : ProgP w b t) {i : Nat} (hi : i < 39) {v : Value} (hv : cellQ t i = v) : w.cell? ⟨b, i, none⟩ = some v := by
  rw [cell_of_row w b _ _ _ _ h.1, varr_get _ _ _ hi, hv]
theorem cellQ_prio (t : PS) {s : Nat} (hs : s < 32) : cellQ t (3 + s) = .int .u8 (t.prio s) := by
  unfold cellQ
  rw [if_neg (by omega), if_neg (by omega), if_neg (by omega), if_pos (by omega), show 3 + s - 3 = s by omega]
theorem cellQ_on (t : PS) {c : Nat} (hc : c < 2) : cellQ t (35 + c) = .int .u32 (bits32 fun s => t.on s c) := by
  unfold cellQ
  rw [if_neg (by omega), if_neg (by omega), if_neg (by omega), if_neg (by omega), if_pos (by omega), show 35 + c - 35 = c by omega]
theorem cellQ_floor (t : PS) {c : Nat} (hc : c < 2) : cellQ t (37 + c) = .int .u8 (t.floor c) := by
  unfold cellQ
  rw [if_neg (by omega), if_neg (by omega), if_neg (by omega), if_neg (by omega), if_neg (by omega), show 37 + c - 37 = c by omega]
theorem ProgP.up_ {w : World} {b : Nat} {t : PS} (h : ProgP w b t) : w.cell? ⟨b, 0, none⟩ = some (.int .u32 (bits32 t.up)) := h.cell (by omega) rfl
theorem ProgP.pend_ {w : World} {b : Nat} {t : PS} (h : ProgP w b t) : w.cell? ⟨b, 1, none⟩ = some (.int .u32 (bits32 t.pend)) := h.cell (by omega) rfl
theorem ProgP.busy_ {w : World} {b : Nat} {t : PS} (h : ProgP w b t) : w.cell? ⟨b, 2, none⟩ = some (.int .u32 (bits32 t.busy)) := h.cell (by omega) rfl
theorem ProgP.prio_ {w : World} {b : Nat} {t : PS} (h : ProgP w b t) {s : Nat} (hs : s < 32) : w.cell? ⟨b, 3 + s, none⟩ = some (.int .u8 (t.prio s)) := h.cell (by omega) (cellQ_prio t hs)
theorem ProgP.on_ {w : World} {b : Nat} {t : PS} (h : ProgP w b t) {c : Nat} (hc : c < 2) : w.cell? ⟨b, 35 + c, none⟩ = some (.int .u32 (bits32 fun s => t.on s c)) := h.cell (by omega) (cellQ_on t hc)
theorem ProgP.floor_ {w : World} {b : Nat} {t : PS} (h : ProgP w b t) {c : Nat} (hc : c < 2) : w.cell? ⟨b, 37 + c, none⟩ = some (.int .u8 (t.floor c)) := h.cell (by omega) (cellQ_floor t hc)
/-- One cell turned. -/
theorem ProgP.set {w : World} {b : Nat} {t t' : PS} (h : ProgP w b t) {k : Nat} (v : Value) (ok : t'.ok) (he : ∀ i, i < 39 → cellQ t' i = if i = k then v else cellQ t i) : ProgP (w.setCell ⟨b, k, none⟩ v) b t' := by
  refine ⟨?_, ok⟩
  rw [heap_setCell_same w b _ _ _ _ h.1, varr_set]
  rw [show (varr 39 fun i => if i = k then v else cellQ t i) = varr 39 (cellQ t') from varr_congr fun i hi => (he i hi).symm]
theorem cells_eq {t t' : PS} {k : Nat} {v : Value} (h0 : Value.int .u32 (bits32 t'.up) = if 0 = k then v else .int .u32 (bits32 t.up)) (h1 : Value.int .u32 (bits32 t'.pend) = if 1 = k then v else .int .u32 (bits32 t.pend))
    (h2 : Value.int .u32 (bits32 t'.busy) = if 2 = k then v else .int .u32 (bits32 t.busy)) (hp : ∀ s, s < 32 → Value.int .u8 (t'.prio s) = if 3 + s = k then v else .int .u8 (t.prio s))
    (ho : ∀ c, c < 2 → Value.int .u32 (bits32 fun s => t'.on s c) = if 35 + c = k then v else .int .u32 (bits32 fun s => t.on s c)) (hf : ∀ c, c < 2 → Value.int .u8 (t'.floor c) = if 37 + c = k then v else .int .u8 (t.floor c)) :
    ∀ i, i < 39 → cellQ t' i = if i = k then v else cellQ t i := by
  intro i hi
  have hc : i = 0 ∨ i = 1 ∨ i = 2 ∨ (∃ s, s < 32 ∧ i = 3 + s) ∨ (∃ c, c < 2 ∧ i = 35 + c) ∨ ∃ c, c < 2 ∧ i = 37 + c := by
    by_cases i0 : i < 3
    · omega
    · by_cases i1 : i < 35
      · exact .inr (.inr (.inr (.inl ⟨i - 3, by omega, by omega⟩)))
      · by_cases i2 : i < 37
        · exact .inr (.inr (.inr (.inr (.inl ⟨i - 35, by omega, by omega⟩))))
        · exact .inr (.inr (.inr (.inr (.inr ⟨i - 37, by omega, by omega⟩))))
  rcases hc with rfl | rfl | rfl | ⟨s, hs, rfl⟩ | ⟨c, hc, rfl⟩ | ⟨c, hc, rfl⟩
  · exact h0
  · exact h1
  · exact h2
  · rw [cellQ_prio t' hs, cellQ_prio t hs]; exact hp s hs
  · rw [cellQ_on t' hc, cellQ_on t hc]; exact ho c hc
  · rw [cellQ_floor t' hc, cellQ_floor t hc]; exact hf c hc
theorem ProgP.setUp {w : World} {b : Nat} {t : PS} (h : ProgP w b t) {s : Nat} (hs : 1 ≤ s) (u : Bool) : ProgP (w.setCell ⟨b, 0, none⟩ (.int .u32 (bits32 (upd t.up s u)))) b (upP t s u) :=
  h.set _ ⟨h.2.prio0, h.2.on0, h.2.pend0, (upd_other t.up u (show ¬ 0 = s by omega)).trans h.2.up0, h.2.pr, h.2.fl⟩ (cells_eq rfl rfl rfl (fun s _ => (if_neg (by omega)).symm) (fun c _ => (if_neg (by omega)).symm) (fun c _ => (if_neg (by omega)).symm))
theorem ProgP.setPend {w : World} {b : Nat} {t : PS} (h : ProgP w b t) (f : Nat → Bool) (h0 : f 0 = false) : ProgP (w.setCell ⟨b, 1, none⟩ (.int .u32 (bits32 f))) b { t with pend := f } :=
  h.set _ ⟨h.2.prio0, h.2.on0, h0, h.2.up0, h.2.pr, h.2.fl⟩ (cells_eq rfl rfl rfl (fun s _ => (if_neg (by omega)).symm) (fun c _ => (if_neg (by omega)).symm) (fun c _ => (if_neg (by omega)).symm))
theorem ProgP.setBusy {w : World} {b : Nat} {t : PS} (h : ProgP w b t) (f : Nat → Bool) : ProgP (w.setCell ⟨b, 2, none⟩ (.int .u32 (bits32 f))) b { t with busy := f } :=
  h.set _ ⟨h.2.prio0, h.2.on0, h.2.pend0, h.2.up0, h.2.pr, h.2.fl⟩ (cells_eq rfl rfl rfl (fun s _ => (if_neg (by omega)).symm) (fun c _ => (if_neg (by omega)).symm) (fun c _ => (if_neg (by omega)).symm))
theorem ok_prio {t : PS} (h : t.ok) {s : Nat} (hs : 1 ≤ s) {v : Int} (h0 : 0 ≤ v) (h8 : v < 8) : (prioT t s v).ok :=
  ⟨(upd_other t.prio v (show ¬ 0 = s by omega)).trans h.prio0, h.on0, h.pend0, h.up0, fun i => by
    show 0 ≤ upd t.prio s v i ∧ upd t.prio s v i < 8
    unfold upd; split
    · exact ⟨h0, h8⟩
    · exact h.pr i, h.fl⟩
theorem ok_floor {t : PS} (h : t.ok) (c : Nat) {v : Int} (h0 : 0 ≤ v) (h8 : v < 8) : (floorT t c v).ok :=
  ⟨h.prio0, h.on0, h.pend0, h.up0, h.pr, fun i => by
    rw [floorT_at]; split
    · exact ⟨h0, h8⟩
    · exact h.fl i⟩
theorem ok_on {t : PS} (h : t.ok) (c : Nat) {f : Nat → Bool} (h0 : f 0 = false) : (onT t c f).ok :=
  ⟨h.prio0, fun i => by show (if i = c then f 0 else t.on 0 i) = false; split; exact h0; exact h.on0 i, h.pend0, h.up0, h.pr, h.fl⟩
theorem ProgP.setPrio {w : World} {b : Nat} {t : PS} (h : ProgP w b t) {s : Nat} (hs : 1 ≤ s) (hs2 : s < 32) {v : Int} (h0 : 0 ≤ v) (h8 : v < 8) : ProgP (w.setCell ⟨b, 3 + s, none⟩ (.int .u8 v)) b (prioT t s v) :=
  h.set _ (ok_prio h.2 hs h0 h8) (cells_eq (if_neg (by omega)).symm (if_neg (by omega)).symm (if_neg (by omega)).symm (fun i _ => by
    show Value.int .u8 (upd t.prio s v i) = _
    unfold upd
    by_cases e : i = s
    · rw [if_pos e, if_pos (by omega)]
    · rw [if_neg e, if_neg (by omega)]) (fun c _ => (if_neg (by omega)).symm) (fun c _ => (if_neg (by omega)).symm))
theorem ProgP.setFloor {w : World} {b : Nat} {t : PS} (h : ProgP w b t) {c : Nat} (hc : c < 2) {v : Int} (h0 : 0 ≤ v) (h8 : v < 8) : ProgP (w.setCell ⟨b, 37 + c, none⟩ (.int .u8 v)) b (floorT t c v) :=
  h.set _ (ok_floor h.2 c h0 h8) (cells_eq (if_neg (by omega)).symm (if_neg (by omega)).symm (if_neg (by omega)).symm (fun i _ => (if_neg (by omega)).symm) (fun i _ => (if_neg (by omega)).symm) (fun i _ => by
    rw [floorT_at]
    by_cases e : i = c
    · rw [if_pos e, if_pos (by omega)]
    · rw [if_neg e, if_neg (by omega)]))
theorem ProgP.setOn {w : World} {b : Nat} {t : PS} (h : ProgP w b t) {c : Nat} (hc : c < 2) (f : Nat → Bool) (h0 : f 0 = false) : ProgP (w.setCell ⟨b, 35 + c, none⟩ (.int .u32 (bits32 f))) b (onT t c f) :=
  h.set _ (ok_on h.2 c h0) (cells_eq (if_neg (by omega)).symm (if_neg (by omega)).symm (if_neg (by omega)).symm (fun i _ => (if_neg (by omega)).symm) (fun i _ => by
    show Value.int .u32 (bits32 fun s => if i = c then f s else t.on s i) = _
    by_cases e : i = c
    · rw [if_pos (show 35 + i = 35 + c by omega)]; congr 1; exact bits32_congr fun s _ => if_pos e
    · rw [if_neg (by omega)]; congr 1; exact bits32_congr fun s _ => if_neg e) (fun i _ => (if_neg (by omega)).symm))

/-! ### small calls -/
theorem isSource_any (s : Int) (w : World) : Calls Tryd.prog 26 #[.int .i64 s] w fun e w' => e = .returned (.bool (isS s)) ∧ w = w' := by
  by_cases h1 : 1 ≤ s
  · by_cases h2 : s < 32
    · have HE : Hid (true = isS s) := Lib.hid (by unfold isS; rw [decide_eq_true ⟨h1, by omega⟩])
      go_enter Tryd.func26, Tryd.ntmps26
      go_wp2
      go_ret
      exact ⟨by rw [← HE.out]; rfl, rfl⟩
    · have HE : Hid (false = isS s) := Lib.hid (by unfold isS; symm; rw [decide_eq_false_iff_not]; omega)
      go_enter Tryd.func26, Tryd.ntmps26
      go_wp2
      go_ret
      exact ⟨by rw [← HE.out]; rfl, rfl⟩
  · have HE : Hid (false = isS s) := Lib.hid (by unfold isS; symm; rw [decide_eq_false_iff_not]; omega)
    go_enter Tryd.func26, Tryd.ntmps26
    go_wp2
    go_ret
    exact ⟨by rw [← HE.out]; rfl, rfl⟩
def isC (c : Int) : Bool := decide (c = 0 ∨ c = 1)
theorem isContext_any (c : Int) (w : World) : Calls Tryd.prog 28 #[.int .i64 c] w fun e w' => e = .returned (.bool (isC c)) ∧ w = w' := by
  by_cases h1 : 0 ≤ c
  · by_cases h2 : c < 2
    · have HE : Hid (true = isC c) := Lib.hid (by unfold isC; rw [decide_eq_true (by omega)])
      go_enter Tryd.func28, Tryd.ntmps28
      go_wp2
      go_ret
      exact ⟨by rw [← HE.out]; rfl, rfl⟩
    · have HE : Hid (false = isC c) := Lib.hid (by unfold isC; symm; rw [decide_eq_false_iff_not]; omega)
      go_enter Tryd.func28, Tryd.ntmps28
      go_wp2
      go_ret
      exact ⟨by rw [← HE.out]; rfl, rfl⟩
  · have HE : Hid (false = isC c) := Lib.hid (by unfold isC; symm; rw [decide_eq_false_iff_not]; omega)
    go_enter Tryd.func28, Tryd.ntmps28
    go_wp2
    go_ret
    exact ⟨by rw [← HE.out]; rfl, rfl⟩
theorem bitQ (f : Nat → Bool) (s : Nat) (hs : s < 32) (u : Bool) (hu : f s = u) (w : World) : Calls Tryd.prog 30 #[.int .u32 (bits32 f), .int .i64 s] w fun e w' => e = .returned (.bool u) ∧ w = w' := by
  subst hu
  have h := bit32_any (bits32 f) (s : Int) (bits32_bd f).1 (bits32_bd f).2 w
  rw [bit32_is f hs] at h
  exact h
theorem bitQ_out (f : Nat → Bool) (i : Int) (hi : ¬ (0 ≤ i ∧ i < 32)) (w : World) : Calls Tryd.prog 30 #[.int .u32 (bits32 f), .int .i64 i] w fun e w' => e = .returned (.bool false) ∧ w = w' := by
  have h := bit32_any (bits32 f) i (bits32_bd f).1 (bits32_bd f).2 w
  rw [bit32_out f hi] at h
  exact h
theorem one_shl {k : Nat} (hk : k < 32) : IntKind.u32.wrap (2 ^ k) = 2 ^ k := by
  have h1 := two_pow_le (show k ≤ 31 by omega)
  have h2 : (0 : Int) < 2 ^ k := Int.pow_pos (by decide)
  rw [IntKind.wrap_u32]; omega
def SetQ (w : World) (b : Nat) (t' : PS) (e : Ending) (w' : World) : Prop := (∃ u, e = .returned u) ∧ Only (fun i => i = b) w w' ∧ ProgP w' b t'

end Go.Proofs.YtgimnkablodheaaDoor
