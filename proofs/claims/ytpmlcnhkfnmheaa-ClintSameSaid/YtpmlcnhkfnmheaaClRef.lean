/- Layer 4: the document's clint in memory; the contracts of its calls. -/
import Derived.Test.YtpmlcnhkfnmheaaRows
import Derived.Test.YtpmlcnhkfnmheaaOnly
import Derived.Test.YtpmlcnhkfnmheaaClA
import Derived.Test.YtpmlcnhkfnmheaaOfBits
import Derived.WalkLawsBesides
import Derived.BigQuiet
import Derived.Deep.QuietTactic
import Derived.StillTailTactics
import Derived.Lib.Hide
namespace Go.Proofs.Ytpmlcnhkfnmheaa
open Go.RowKit
set_option linter.unusedVariables false

/-- The document's clint t stands in block b. -/
def RefC (w : World) (b : Nat) (t : Cl) : Prop := w.heap[b]? = some (.cells #[.int .u64 (sI t.s), .int .u64 t.c, .int .u64 t.n] 37 (0, 0)) ∧ t.ok
theorem RefC.keeps {w w' : World} {b : Nat} {t : Cl} {T : Nat → Prop} (h : RefC w b t) (o : Only T w w') (hb : ¬ T b) : RefC w' b t := ⟨o.keeps hb h.1, h.2⟩
theorem RefC.lt {w : World} {b : Nat} {t : Cl} (h : RefC w b t) : b < w.heap.size := (Array.getElem?_eq_some_iff.1 h.1).1
theorem RefC.below {w w' : World} {b : Nat} {t : Cl} (h : RefC w b t) (o : Below w.heap.size w w') : RefC w' b t := ⟨(o.block b h.lt).trans h.1, h.2⟩
/-- The three cells. -/
theorem RefC.cells {w : World} {b : Nat} {t : Cl} (h : RefC w b t) : w.cell? ⟨b, 0, none⟩ = some (.int .u64 (sI t.s)) ∧ w.cell? ⟨b, 1, none⟩ = some (.int .u64 t.c) ∧ w.cell? ⟨b, 2, none⟩ = some (.int .u64 t.n) := by
  refine ⟨?_, ?_, ?_⟩ <;> (rw [cell_of_row w b _ _ _ _ h.1]; rfl)
theorem RefC.free {w : World} {b : Nat} {t : Cl} (h : RefC w b t) (k : Nat) : w.frozen? ⟨b, k, none⟩ = false := frozen_of_row w b k _ _ h.1
/-- Its value. -/
def refV (t : Cl) : Value := .agg #[.int .u64 (sI t.s), .int .u64 t.c, .int .u64 t.n]

theorem low_any (x : Int) (w : World) (h : In64 x) : Calls Try.prog 27 #[.int .u64 x] w fun e w' => e = .returned (.int .u64 (x % 4294967296)) ∧ w = w' := by
  have h0 := h.1
  go_enter Try.func27, Try.ntmps27
  go_wp2
  go_ret
  exact ⟨rfl, rfl⟩
theorem low_still (x : Int) (w : World) (h : In64 x) : Calls Try.prog 27 #[.int .u64 x] w fun e w' => e = .returned (.int .u64 (x % 4294967296)) ∧ w' = w := (low_any x w h).mono fun _ _ h => ⟨h.1, h.2.symm⟩
theorem high_any (x : Int) (w : World) (h : In64 x) : Calls Try.prog 26 #[.int .u64 x] w fun e w' => e = .returned (.int .u64 (x / 4294967296)) ∧ w = w' := by
  have H : Hid (IntKind.u64.wrap (x.tdiv 4294967296) = x / 4294967296) := by
    show IntKind.u64.wrap (x.tdiv 4294967296) = x / 4294967296
    unfold In64 at h
    rw [Int.tdiv_eq_ediv_of_nonneg h.1, IntKind.wrap_u64]; omega
  clear h
  go_enter Try.func26, Try.ntmps26
  go_wp2
  go_ret
  exact ⟨ret_int H.out, rfl⟩

/-- What a call leaves that turns the clint. -/
def RefEnd (w : World) (b : Nat) (r : Value) (t' : Cl) (e : Ending) (w' : World) : Prop := e = .returned r ∧ Only (fun i => i = b) w w' ∧ RefC w' b t'
theorem refC_set {w w' : World} {b k : Nat} {t t' : Cl} {v : Value} {r : Value} (h : RefC w b t) (ho : ∃ n, w' = (w.drewN n).setCell ⟨b, k, none⟩ v)
    (e : (#[.int .u64 (sI t.s), .int .u64 t.c, .int .u64 t.n] : Array Value).setIfInBounds k v = #[.int .u64 (sI t'.s), .int .u64 t'.c, .int .u64 t'.n]) (hok : t'.ok) : RefEnd w b r t' (.returned r) w' := by
  obtain ⟨n, rfl⟩ := ho
  refine ⟨rfl, ((Only.refl (fun i => i = b) w).drewN n).setCell (p := ⟨b, k, none⟩) (.inl rfl) v, ?_, hok⟩
  rw [heap_setCell_same (w.drewN n) b k _ _ _ h.1, e]

theorem refNew_any (w : World) : Calls Try.prog 16 #[] w fun e w' => e = .returned (refV ⟨false, 18446744073709551615, 0⟩) ∧ Below w.heap.size w w' := by
  go_enter Try.func16, Try.ntmps16
  go_wp2
  exact bodyPost_ret (v := refV ⟨false, 18446744073709551615, 0⟩) (by simp [results, Try.results16, go_sem]; rfl) rfl ⟨rfl, (Below.refl _ _).alloc (Nat.le_refl _) _⟩

theorem sI_mod {v : Int} (h : In64 v) : sI (v % 2 == 1) = v % 2 := by
  unfold sI
  by_cases e : v % 2 = 1
  · rw [e]; rfl
  · have e2 : (v % 2 == 1) = false := by simpa using e
    rw [e2]; simp; unfold In64 at h; omega
theorem refWrite_1 (w : World) (b : Nat) (t : Cl) (v : Int) (h : RefC w b t) (hv : In64 v) :
    Calls Try.prog 17 #[.pointer (some ⟨b, 0, none⟩), .int .u64 0, .int .i64 4, .int .u64 v] w (RefEnd w b (.bool true) (wrC t v 1)) := by
  obtain ⟨hc0, hc1, hc2⟩ := h.cells
  have f0 := h.free 0
  have f1 := h.free 1
  have f2 := h.free 2
  have H := Lib.hid h
  have HV := Lib.hid hv
  have HO := Lib.hid h.2
  have hv0 := hv.1
  have hb1 := h.2.1.1
  have hb2 := h.2.2.1
  clear h hv
  go_enter Try.func17, Try.ntmps17
  go_wp2
  go_ret
  exact refC_set (k := 0) H.out ⟨0, rfl⟩ (by simp only [wrC]; rw [sI_mod HV.out]; rfl) (wrC_ok H.out.2 HV.out 1)

theorem refWrite_2 (w : World) (b : Nat) (t : Cl) (v : Int) (h : RefC w b t) (hv : In64 v) :
    Calls Try.prog 17 #[.pointer (some ⟨b, 0, none⟩), .int .u64 16384, .int .i64 8, .int .u64 v] w (RefEnd w b (.bool true) (wrC t v 2)) := by
  obtain ⟨hc0, hc1, hc2⟩ := h.cells
  have f0 := h.free 0
  have f1 := h.free 1
  have f2 := h.free 2
  have H := Lib.hid h
  have HV := Lib.hid hv
  have HO := Lib.hid h.2
  have hv0 := hv.1
  have hb1 := h.2.1.1
  have hb2 := h.2.2.1
  clear h hv
  go_enter Try.func17, Try.ntmps17
  go_wp2
  go_ret
  exact refC_set (k := 1) H.out ⟨0, rfl⟩ (rfl) (wrC_ok H.out.2 HV.out 2)

theorem refWrite_3 (w : World) (b : Nat) (t : Cl) (v : Int) (h : RefC w b t) (hv : In64 v) :
    Calls Try.prog 17 #[.pointer (some ⟨b, 0, none⟩), .int .u64 16384, .int .i64 4, .int .u64 v] w (RefEnd w b (.bool true) (wrC t v 3)) := by
  obtain ⟨hc0, hc1, hc2⟩ := h.cells
  have f0 := h.free 0
  have f1 := h.free 1
  have f2 := h.free 2
  have H := Lib.hid h
  have HV := Lib.hid hv
  have HO := Lib.hid h.2
  have hv0 := hv.1
  have hb1 := h.2.1.1
  have hb2 := h.2.2.1
  have HS : Hid (IntKind.u64.wrap (IntKind.u64.wrap (t.c / 4294967296 * 4294967296) + v % 4294967296) = t.c / 4294967296 * 4294967296 + v % 4294967296) := by
    have h1 := h.2.1
    have h2 := h.2.2
    show IntKind.u64.wrap (IntKind.u64.wrap (t.c / 4294967296 * 4294967296) + v % 4294967296) = t.c / 4294967296 * 4294967296 + v % 4294967296
    unfold In64 at h1 h2 hv
    rw [IntKind.wrap_u64, IntKind.wrap_u64]; omega
  clear h hv
  go_enter Try.func17, Try.ntmps17
  go_wp2_with (first
    | (go_at_call 26; refine (high_any _ _ (by first | exact HO.out.1 | exact HO.out.2)).mono ?_; rintro e w' ⟨rfl, rfl⟩)
    | (go_at_call 27; refine (low_any _ _ HV.out).mono ?_; rintro e w' ⟨rfl, rfl⟩))
  go_ret
  exact refC_set (k := 1) H.out ⟨0, rfl⟩ (by simp only [wrC]; rw [← HS.out]; rfl) (wrC_ok H.out.2 HV.out 3)

theorem refWrite_4 (w : World) (b : Nat) (t : Cl) (v : Int) (h : RefC w b t) (hv : In64 v) :
    Calls Try.prog 17 #[.pointer (some ⟨b, 0, none⟩), .int .u64 16388, .int .i64 4, .int .u64 v] w (RefEnd w b (.bool true) (wrC t v 4)) := by
  obtain ⟨hc0, hc1, hc2⟩ := h.cells
  have f0 := h.free 0
  have f1 := h.free 1
  have f2 := h.free 2
  have H := Lib.hid h
  have HV := Lib.hid hv
  have HO := Lib.hid h.2
  have hv0 := hv.1
  have hb1 := h.2.1.1
  have hb2 := h.2.2.1
  have HS : Hid (IntKind.u64.wrap (IntKind.u64.wrap (v % 4294967296 * 4294967296) + t.c % 4294967296) = v % 4294967296 * 4294967296 + t.c % 4294967296) := by
    have h1 := h.2.1
    have h2 := h.2.2
    show IntKind.u64.wrap (IntKind.u64.wrap (v % 4294967296 * 4294967296) + t.c % 4294967296) = v % 4294967296 * 4294967296 + t.c % 4294967296
    unfold In64 at h1 h2 hv
    rw [IntKind.wrap_u64, IntKind.wrap_u64]; omega
  clear h hv
  go_enter Try.func17, Try.ntmps17
  go_wp2_with fail
  go_still_tail 12, (by kernel_rfl)
  still_call (low_still _ _ HV.out)
  repeat still_step
  still_call (low_still _ _ HO.out.1)
  repeat still_step
  refine wpStill_nil ?_
  change wpList _ _ _ _ _ w.drew
  have HD : Hid (∃ n, w.drew = w.drewN n) := Lib.hid ⟨1, rfl⟩
  have g1 : w.drew.frozen? ⟨b, 1, none⟩ = false := f1
  have gc : w.drew.cell? ⟨b, 1, none⟩ = some (.int .u64 t.c) := hc1
  clear hc0 hc1 hc2 f0 f1 f2
  generalize w.drew = wd at *
  go_wp2
  go_ret
  exact refC_set (k := 1) H.out (by obtain ⟨n, rfl⟩ := HD.out; exact ⟨n, rfl⟩) (by simp only [wrC]; rw [← HS.out]; rfl) (wrC_ok H.out.2 HV.out 4)

theorem refWrite_5 (w : World) (b : Nat) (t : Cl) (v : Int) (h : RefC w b t) (hv : In64 v) :
    Calls Try.prog 17 #[.pointer (some ⟨b, 0, none⟩), .int .u64 49144, .int .i64 8, .int .u64 v] w (RefEnd w b (.bool true) (wrC t v 5)) := by
  obtain ⟨hc0, hc1, hc2⟩ := h.cells
  have f0 := h.free 0
  have f1 := h.free 1
  have f2 := h.free 2
  have H := Lib.hid h
  have HV := Lib.hid hv
  have HO := Lib.hid h.2
  have hv0 := hv.1
  have hb1 := h.2.1.1
  have hb2 := h.2.2.1
  clear h hv
  go_enter Try.func17, Try.ntmps17
  go_wp2
  go_ret
  exact refC_set (k := 2) H.out ⟨0, rfl⟩ (rfl) (wrC_ok H.out.2 HV.out 5)

theorem refWrite_6 (w : World) (b : Nat) (t : Cl) (v : Int) (h : RefC w b t) (hv : In64 v) :
    Calls Try.prog 17 #[.pointer (some ⟨b, 0, none⟩), .int .u64 49144, .int .i64 4, .int .u64 v] w (RefEnd w b (.bool true) (wrC t v 6)) := by
  obtain ⟨hc0, hc1, hc2⟩ := h.cells
  have f0 := h.free 0
  have f1 := h.free 1
  have f2 := h.free 2
  have H := Lib.hid h
  have HV := Lib.hid hv
  have HO := Lib.hid h.2
  have hv0 := hv.1
  have hb1 := h.2.1.1
  have hb2 := h.2.2.1
  have HS : Hid (IntKind.u64.wrap (IntKind.u64.wrap (t.n / 4294967296 * 4294967296) + v % 4294967296) = t.n / 4294967296 * 4294967296 + v % 4294967296) := by
    have h1 := h.2.1
    have h2 := h.2.2
    show IntKind.u64.wrap (IntKind.u64.wrap (t.n / 4294967296 * 4294967296) + v % 4294967296) = t.n / 4294967296 * 4294967296 + v % 4294967296
    unfold In64 at h1 h2 hv
    rw [IntKind.wrap_u64, IntKind.wrap_u64]; omega
  clear h hv
  go_enter Try.func17, Try.ntmps17
  go_wp2_with (first
    | (go_at_call 26; refine (high_any _ _ (by first | exact HO.out.1 | exact HO.out.2)).mono ?_; rintro e w' ⟨rfl, rfl⟩)
    | (go_at_call 27; refine (low_any _ _ HV.out).mono ?_; rintro e w' ⟨rfl, rfl⟩))
  go_ret
  exact refC_set (k := 2) H.out ⟨0, rfl⟩ (by simp only [wrC]; rw [← HS.out]; rfl) (wrC_ok H.out.2 HV.out 6)

theorem refWrite_7 (w : World) (b : Nat) (t : Cl) (v : Int) (h : RefC w b t) (hv : In64 v) :
    Calls Try.prog 17 #[.pointer (some ⟨b, 0, none⟩), .int .u64 49148, .int .i64 4, .int .u64 v] w (RefEnd w b (.bool true) (wrC t v 7)) := by
  obtain ⟨hc0, hc1, hc2⟩ := h.cells
  have f0 := h.free 0
  have f1 := h.free 1
  have f2 := h.free 2
  have H := Lib.hid h
  have HV := Lib.hid hv
  have HO := Lib.hid h.2
  have hv0 := hv.1
  have hb1 := h.2.1.1
  have hb2 := h.2.2.1
  have HS : Hid (IntKind.u64.wrap (IntKind.u64.wrap (v % 4294967296 * 4294967296) + t.n % 4294967296) = v % 4294967296 * 4294967296 + t.n % 4294967296) := by
    have h1 := h.2.1
    have h2 := h.2.2
    show IntKind.u64.wrap (IntKind.u64.wrap (v % 4294967296 * 4294967296) + t.n % 4294967296) = v % 4294967296 * 4294967296 + t.n % 4294967296
    unfold In64 at h1 h2 hv
    rw [IntKind.wrap_u64, IntKind.wrap_u64]; omega
  clear h hv
  go_enter Try.func17, Try.ntmps17
  go_wp2_with fail
  go_still_tail 12, (by kernel_rfl)
  still_call (low_still _ _ HV.out)
  repeat still_step
  still_call (low_still _ _ HO.out.2)
  repeat still_step
  refine wpStill_nil ?_
  change wpList _ _ _ _ _ w.drew
  have HD : Hid (∃ n, w.drew = w.drewN n) := Lib.hid ⟨1, rfl⟩
  have g2 : w.drew.frozen? ⟨b, 2, none⟩ = false := f2
  have gc : w.drew.cell? ⟨b, 2, none⟩ = some (.int .u64 t.n) := hc2
  clear hc0 hc1 hc2 f0 f1 f2
  generalize w.drew = wd at *
  go_wp2
  go_ret
  exact refC_set (k := 2) H.out (by obtain ⟨n, rfl⟩ := HD.out; exact ⟨n, rfl⟩) (by simp only [wrC]; rw [← HS.out]; rfl) (wrC_ok H.out.2 HV.out 7)

end Go.Proofs.Ytpmlcnhkfnmheaa
