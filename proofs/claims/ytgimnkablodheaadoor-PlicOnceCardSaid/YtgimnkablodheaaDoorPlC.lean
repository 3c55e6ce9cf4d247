/- Layer 5: the document's plic by value: Up, Best, Line. -/
import Derived.Test.YtgimnkablodheaaDoorPlB
namespace Go.Proofs.YtgimnkablodheaaDoor
open Go.RowKit
set_option linter.unusedVariables false

/-- Its value. -/
def refPV (t : PS) : Value := .agg (varr 194 (cellR t))
theorem refP_boxed (w : World) (t : PS) : RefP (w.alloc (.cells (varr 194 (cellR t)) 45)) w.heap.size t := heap_alloc_new w _
/-- What Up tells. -/
def upT (t : PS) (s : Int) : Bool := isS s && t.up s.toNat
set_option maxHeartbeats 1000000 in
theorem refUp_any (w : World) (t : PS) (s : Int) : Calls Tryd.prog 19 #[refPV t, .int .i64 s] w fun e w' => e = .returned (.bool (upT t s)) ∧ Below w.heap.size w w' := by
  have HP := Lib.hid (refP_boxed w t)
  have HB := Lib.hid ((Below.refl w.heap.size w).alloc (Nat.le_refl _) (.cells (varr 194 (cellR t)) 45))
  cases hs : isS s with
  | false =>
    have HS := Lib.hid hs
    have HE : Hid (false = upT t s) := by refine Lib.hid ?_; unfold upT; rw [hs]; rfl
    clear hs
    show Calls Tryd.prog 19 #[.agg (varr 194 (cellR t)), .int .i64 s] w _
    generalize varr 194 (cellR t) = row at *
    go_enter Tryd.func19, Tryd.ntmps19
    go_wp2_with fail
    refine (refIs_any _ _).mono ?_
    rintro e w' ⟨rfl, rfl⟩
    rw [HS.out]
    go_wp2
    go_ret
    exact ⟨by rw [← HE.out]; rfl, HB.out⟩
  | true =>
    obtain ⟨k, rfl, hk1, hk2⟩ := isS_nat hs
    have HS := Lib.hid hs
    have HE : Hid (t.up k = upT t (k : Int)) := by refine Lib.hid ?_; unfold upT; rw [hs]; rfl
    have i1 : (k : Int) < 32 := by omega
    clear hs
    show Calls Tryd.prog 19 #[.agg (varr 194 (cellR t)), .int .i64 k] w _
    generalize varr 194 (cellR t) = row at *
    go_enter Tryd.func19, Tryd.ntmps19
    go_wp2_with fail
    refine (refIs_any _ _).mono ?_
    rintro e w' ⟨rfl, rfl⟩
    rw [HS.out]
    have c1 : (w.alloc (.cells row 45)).cell? ⟨w.heap.size, k * 6 + 1, none⟩ = some (.bool (t.up k)) := HP.out.src hk2 (by omega)
    generalize w.alloc (.cells row 45) = w1 at *
    go_wp2
    go_ret
    exact ⟨by rw [← HE.out]; rfl, HB.out⟩

/-- The best of the sources 31 down to 32 - n. -/
def bestTo (t : PS) (c : Nat) : Nat → Nat
  | 0 => 0
  | n + 1 => if t.pend (31 - n) && t.on (31 - n) c && decide (0 < t.prio (31 - n)) && (decide (bestTo t c n = 0) || decide (t.prio (bestTo t c n) ≤ t.prio (31 - n))) then 31 - n else bestTo t c n
theorem bestTo_le (t : PS) (c n : Nat) : bestTo t c n ≤ 31 := by
  induction n with
  | zero => exact Nat.zero_le _
  | succ n ih => simp only [bestTo]; split <;> omega
/-- A context's best. -/
def bestC (t : PS) (c : Int) : Nat := if c = 0 ∨ c = 1 then bestTo t c.toNat 31 else 0
theorem best_step {t : PS} {c i b : Nat} (hi : 1 ≤ i) (hi2 : i ≤ 31) (hb : b = bestTo t c (31 - i)) : bestTo t c (31 - (i - 1)) = if t.pend i && t.on i c && decide (0 < t.prio i) && (decide (b = 0) || decide (t.prio b ≤ t.prio i)) then i else b := by
  rw [show 31 - (i - 1) = 31 - i + 1 by omega]
  simp only [bestTo]
  rw [show 31 - (31 - i) = i by omega, ← hb]

end Go.Proofs.YtgimnkablodheaaDoor
