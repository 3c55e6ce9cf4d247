/- Layer 4: the program's clint in memory; the contracts of its small methods. -/
import Derived.Test.YtpmlcnhkfnmheaaClRef2
import Derived.Deep.RegionHeld3
namespace Go.Proofs.Ytpmlcnhkfnmheaa
open Go.RowKit
set_option linter.unusedVariables false

/-- The program's clint t stands in block b. -/
def ProgC (w : World) (b : Nat) (t : Cl) : Prop := w.heap[b]? = some (.cells #[.bool t.s, .int .u64 t.c, .int .u64 t.n] 26 (0, 0)) ∧ t.ok
theorem ProgC.keeps {w w' : World} {b : Nat} {t : Cl} {T : Nat → Prop} (h : ProgC w b t) (o : Only T w w') (hb : ¬ T b) : ProgC w' b t := ⟨o.keeps hb h.1, h.2⟩
theorem ProgC.lt {w : World} {b : Nat} {t : Cl} (h : ProgC w b t) : b < w.heap.size := (Array.getElem?_eq_some_iff.1 h.1).1
theorem ProgC.below {w w' : World} {b : Nat} {t : Cl} (h : ProgC w b t) (o : Below w.heap.size w w') : ProgC w' b t := ⟨(o.block b h.lt).trans h.1, h.2⟩
theorem ProgC.cells {w : World} {b : Nat} {t : Cl} (h : ProgC w b t) : w.cell? ⟨b, 0, none⟩ = some (.bool t.s) ∧ w.cell? ⟨b, 1, none⟩ = some (.int .u64 t.c) ∧ w.cell? ⟨b, 2, none⟩ = some (.int .u64 t.n) := by
  refine ⟨?_, ?_, ?_⟩ <;> (rw [cell_of_row w b _ _ _ _ h.1]; rfl)
theorem ProgC.free {w : World} {b : Nat} {t : Cl} (h : ProgC w b t) (k : Nat) : w.frozen? ⟨b, k, none⟩ = false := frozen_of_row w b k _ _ h.1
/-- Its value, and its times'. -/
def timesV (t : Cl) : Value := .agg #[.int .u64 t.c, .int .u64 t.n]
def progV (t : Cl) : Value := .agg #[.bool t.s, .int .u64 t.c, .int .u64 t.n]

theorem time_any (w : World) (t : Cl) : Calls Try.prog 15 #[timesV t] w fun e w' => e = .returned (.int .u64 t.n) ∧ Below w.heap.size w w' := by
  obtain ⟨s, c, n⟩ := t
  show Calls Try.prog 15 #[.agg #[.int .u64 c, .int .u64 n]] w _
  go_enter Try.func15, Try.ntmps15
  go_wp2
  go_ret
  exact ⟨rfl, (Below.refl _ _).alloc (Nat.le_refl _) _⟩
theorem alarm_any (w : World) (t : Cl) : Calls Try.prog 31 #[timesV t] w fun e w' => e = .returned (.int .u64 t.c) ∧ Below w.heap.size w w' := by
  obtain ⟨s, c, n⟩ := t
  show Calls Try.prog 31 #[.agg #[.int .u64 c, .int .u64 n]] w _
  go_enter Try.func31, Try.ntmps31
  go_wp2
  go_ret
  exact ⟨rfl, (Below.refl _ _).alloc (Nat.le_refl _) _⟩
theorem mtip_any (w : World) (t : Cl) : Calls Try.prog 10 #[timesV t] w fun e w' => e = .returned (.bool (mtC t)) ∧ Below w.heap.size w w' := by
  obtain ⟨s, c, n⟩ := t
  show Calls Try.prog 10 #[.agg #[.int .u64 c, .int .u64 n]] w _
  go_enter Try.func10, Try.ntmps10
  go_wp2
  go_ret
  exact ⟨rfl, (Below.refl _ _).alloc (Nat.le_refl _) _⟩
theorem msip_any (w : World) (t : Cl) : Calls Try.prog 11 #[progV t] w fun e w' => e = .returned (.bool t.s) ∧ Below w.heap.size w w' := by
  obtain ⟨s, c, n⟩ := t
  show Calls Try.prog 11 #[.agg #[.bool s, .int .u64 c, .int .u64 n]] w _
  go_enter Try.func11, Try.ntmps11
  go_wp2
  go_ret
  exact ⟨rfl, (Below.refl _ _).alloc (Nat.le_refl _) _⟩
theorem softWord_any (w : World) (t : Cl) : Calls Try.prog 28 #[progV t] w fun e w' => e = .returned (.int .u64 (sI t.s)) ∧ Below w.heap.size w w' := by
  obtain ⟨s, c, n⟩ := t
  cases s with
  | true =>
    show Calls Try.prog 28 #[.agg #[.bool true, .int .u64 c, .int .u64 n]] w _
    go_enter Try.func28, Try.ntmps28
    go_wp2
    go_ret
    exact ⟨rfl, (Below.refl _ _).alloc (Nat.le_refl _) _⟩
  | false =>
    show Calls Try.prog 28 #[.agg #[.bool false, .int .u64 c, .int .u64 n]] w _
    go_enter Try.func28, Try.ntmps28
    go_wp2
    go_ret
    exact ⟨rfl, (Below.refl _ _).alloc (Nat.le_refl _) _⟩

/-- What a call leaves that turns the clint. -/
def ProgCEnd (w : World) (b : Nat) (r : Ending) (t' : Cl) (e : Ending) (w' : World) : Prop := e = r ∧ Only (fun i => i = b) w w' ∧ ProgC w' b t'
theorem progC_set {w w' : World} {b k : Nat} {t t' : Cl} {v : Value} (h : ProgC w b t) (ho : ∃ n, w' = (w.drewN n).setCell ⟨b, k, none⟩ v)
    (e : (#[.bool t.s, .int .u64 t.c, .int .u64 t.n] : Array Value).setIfInBounds k v = #[.bool t'.s, .int .u64 t'.c, .int .u64 t'.n]) (hok : t'.ok) : Only (fun i => i = b) w w' ∧ ProgC w' b t' := by
  obtain ⟨n, rfl⟩ := ho
  refine ⟨((Only.refl (fun i => i = b) w).drewN n).setCell (p := ⟨b, k, none⟩) (.inl rfl) v, ?_, hok⟩
  rw [heap_setCell_same (w.drewN n) b k _ _ _ h.1, e]
/-- What a call leaves that answers nothing. -/
def SetEndC (w : World) (b : Nat) (t' : Cl) (e : Ending) (w' : World) : Prop := (∃ u, e = .returned u) ∧ Only (fun i => i = b) w w' ∧ ProgC w' b t'

theorem setTime_any (w : World) (b : Nat) (t : Cl) (v : Int) (h : ProgC w b t) (hv : In64 v) :
    Calls Try.prog 25 #[.pointer (some ⟨b, 1, none⟩), .int .u64 v] w (SetEndC w b ⟨t.s, t.c, v⟩) := by
  obtain ⟨hc0, hc1, hc2⟩ := h.cells
  have f2 := h.free 2
  have H := Lib.hid h
  have HV := Lib.hid hv
  clear h hv
  go_enter Try.func25, Try.ntmps25
  go_wp2
  go_end0
  exact ⟨⟨_, rfl⟩, progC_set (k := 2) H.out ⟨0, rfl⟩ rfl ⟨H.out.2.1, HV.out⟩⟩
theorem setAlarm_any (w : World) (b : Nat) (t : Cl) (v : Int) (h : ProgC w b t) (hv : In64 v) :
    Calls Try.prog 32 #[.pointer (some ⟨b, 1, none⟩), .int .u64 v] w (SetEndC w b ⟨t.s, v, t.n⟩) := by
  obtain ⟨hc0, hc1, hc2⟩ := h.cells
  have f1 := h.free 1
  have H := Lib.hid h
  have HV := Lib.hid hv
  clear h hv
  go_enter Try.func32, Try.ntmps32
  go_wp2
  go_end0
  exact ⟨⟨_, rfl⟩, progC_set (k := 1) H.out ⟨0, rfl⟩ rfl ⟨HV.out, H.out.2.2⟩⟩
theorem setSoftWord_any (w : World) (b : Nat) (t : Cl) (v : Int) (h : ProgC w b t) (hv : In64 v) :
    Calls Try.prog 29 #[.pointer (some ⟨b, 0, none⟩), .int .u64 v] w (SetEndC w b ⟨bitB (V v) 0, t.c, t.n⟩) := by
  obtain ⟨hc0, hc1, hc2⟩ := h.cells
  have f0 := h.free 0
  have H := Lib.hid h
  have HV := Lib.hid hv
  have hv0 := hv.1
  clear h hv
  go_enter Try.func29, Try.ntmps29
  go_wp2_with (go_at_call 36; refine (bit64_any _ _ hv0 HV.out.2 _).mono ?_; rintro e w' ⟨rfl, rfl⟩)
  go_end0
  exact ⟨⟨_, rfl⟩, progC_set (k := 0) H.out ⟨0, rfl⟩ rfl ⟨H.out.2.1, H.out.2.2⟩⟩

/-- Whether a time's byte and a length make a place. -/
def tmB (a n : Int) : Bool := decide (a = 0 ∧ n = 8 ∨ (a = 0 ∨ a = 4) ∧ n = 4)
theorem isOfTime_any (a n : Int) (w : World) : Calls Try.prog 30 #[.int .u64 a, .int .i64 n] w fun e w' => e = .returned (.bool (tmB a n)) ∧ w = w' := by
  by_cases n8 : n = 8
  · subst n8
    by_cases a0 : a = 0
    · subst a0
      have HE : Hid (true = tmB 0 8) := Lib.hid rfl
      go_enter Try.func30, Try.ntmps30
      go_wp2
      go_ret
      exact ⟨ret_bool HE.out, rfl⟩
    · have e0 := ne_bool a0
      have HE : Hid (false = tmB a 8) := by
        refine Lib.hid ?_
        unfold tmB; symm; rw [decide_eq_false_iff_not]; omega
      clear a0
      by_cases a4 : a = 4
      · subst a4
        go_enter Try.func30, Try.ntmps30
        go_wp2
        go_ret
        exact ⟨ret_bool HE.out, rfl⟩
      · have e4 := ne_bool a4
        clear a4
        go_enter Try.func30, Try.ntmps30
        go_wp2
        go_ret
        exact ⟨ret_bool HE.out, rfl⟩
  have e8 := ne_bool n8
  by_cases n4 : n = 4
  · subst n4
    clear n8 e8
    by_cases a0 : a = 0
    · subst a0
      have HE : Hid (true = tmB 0 4) := Lib.hid rfl
      go_enter Try.func30, Try.ntmps30
      go_wp2
      go_ret
      exact ⟨ret_bool HE.out, rfl⟩
    have e0 := ne_bool a0
    by_cases a4 : a = 4
    · subst a4
      have HE : Hid (true = tmB 4 4) := Lib.hid rfl
      clear a0 e0
      go_enter Try.func30, Try.ntmps30
      go_wp2
      go_ret
      exact ⟨ret_bool HE.out, rfl⟩
    · have HE : Hid (false = tmB a 4) := by
        refine Lib.hid ?_
        unfold tmB; symm; rw [decide_eq_false_iff_not]; omega
      have e4 := ne_bool a4
      clear a0 a4
      go_enter Try.func30, Try.ntmps30
      go_wp2
      go_ret
      exact ⟨ret_bool HE.out, rfl⟩
  have e4 := ne_bool n4
  have HE : Hid (false = tmB a n) := by
    refine Lib.hid ?_
    unfold tmB; symm; rw [decide_eq_false_iff_not]; omega
  clear n8 n4
  by_cases a0 : a = 0
  · subst a0
    go_enter Try.func30, Try.ntmps30
    go_wp2
    go_ret
    exact ⟨ret_bool HE.out, rfl⟩
  have e0 := ne_bool a0
  by_cases a4 : a = 4
  · subst a4
    clear a0 e0
    go_enter Try.func30, Try.ntmps30
    go_wp2
    go_ret
    exact ⟨ret_bool HE.out, rfl⟩
  have e44 := ne_bool a4
  clear a0 a4
  go_enter Try.func30, Try.ntmps30
  go_wp2
  go_ret
  exact ⟨ret_bool HE.out, rfl⟩

theorem firstBit_0 (w : World) : Calls Try.prog 33 #[.int .u64 0] w fun e w' => e = .returned (.int .i64 0) ∧ w' = w := by
  go_enter Try.func33, Try.ntmps33
  go_wp2
  go_ret
  exact ⟨rfl, rfl⟩
theorem firstBit_4 (w : World) : Calls Try.prog 33 #[.int .u64 4] w fun e w' => e = .returned (.int .i64 32) ∧ w' = w := by
  go_enter Try.func33, Try.ntmps33
  go_wp2
  go_ret
  exact ⟨rfl, rfl⟩

end Go.Proofs.Ytpmlcnhkfnmheaa
