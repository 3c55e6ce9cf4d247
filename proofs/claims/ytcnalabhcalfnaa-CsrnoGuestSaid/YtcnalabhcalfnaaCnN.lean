/- Layer 11: what Check tells, by Bools; the ways of laws, by closed checks. -/
import Derived.Test.YtcnalabhcalfnaaCnL
import Derived.Test.YtcnalabhcalfnaaHaSt
namespace Go.Proofs.Ytcnalabhcalfnaa
open Go.RowKit
set_option linter.unusedVariables false
set_option maxRecDepth 100000

def chkP (kn hi mc ct p0 m h s l30 v l2 sa hg vt tv : Bool) : Int :=
  if !kn then 2 else if hi then 2 else if mc then 0 else if ct then ctrB p0 v m h s else if l30 then 2 else if v then gstB p0 l2 sa vt else hstB p0 sa hg tv
theorem iteB {α : Type} {P : Prop} [Decidable P] {q : Bool} (h : P ↔ q = true) (a b : α) : (if P then a else b) = (if q then a else b) := by
  by_cases c : P
  · rw [if_pos c, if_pos (h.1 c)]
  · rw [if_neg c, if_neg (fun d => c (h.2 d))]
theorem chkZ_P (t : HS) (no : Int) (wr : Bool) : chkZ t no wr = chkP (knownN no) (wr && decide (3072 ≤ no)) (!(t.n 33 == 0) && !(t.n 33 == 1)) (decide (3072 ≤ no ∧ no ≤ 3074)) (t.n 33 == 0)
    (bitZ (t.n 44) (no - 3072).toNat) (bitZ (t.n 62) (no - 3072).toNat) (bitZ (t.n 52) (no - 3072).toNat) (decide (no / 256 % 4 = 3 ∨ no / 256 % 4 = 0)) t.v (no / 256 % 4 == 2) (no == 384) (no == 1664) (bitZ (t.n 58) 20) (bitZ (t.n 38) 20) := by
  unfold chkZ chkP
  rw [iteB (P := knownN no = false) (q := !knownN no) (by cases knownN no <;> simp), iteB (P := wr = true ∧ 3072 ≤ no) (q := wr && decide (3072 ≤ no)) (by simp), iteB (P := ¬ t.n 33 = 0 ∧ ¬ t.n 33 = 1) (q := !(t.n 33 == 0) && !(t.n 33 == 1)) (by simp),
    iteB (P := 3072 ≤ no ∧ no ≤ 3074) (q := decide (3072 ≤ no ∧ no ≤ 3074)) (by simp), iteB (P := no / 256 % 4 = 3 ∨ no / 256 % 4 = 0) (q := decide (no / 256 % 4 = 3 ∨ no / 256 % 4 = 0)) (by simp)]
theorem guest_bools : ∀ (kn hi ct m h s l30 l2 sa hg vt : Bool),
    (chkP kn hi (!((1 : Int) == 0) && !((1 : Int) == 1)) ct ((1 : Int) == 0) m h s l30 true l2 sa hg vt false = 2 ∧ chkP kn hi (!((1 : Int) == 0) && !((1 : Int) == 1)) ct ((1 : Int) == 0) m h s l30 false l2 sa hg vt false = 2) ∨
    (chkP kn hi (!((1 : Int) == 0) && !((1 : Int) == 1)) ct ((1 : Int) == 0) m h s l30 true l2 sa hg vt false = 22 ∧ chkP kn hi (!((1 : Int) == 0) && !((1 : Int) == 1)) ct ((1 : Int) == 0) m h s l30 false l2 sa hg vt false = 0) ∨
    (chkP kn hi (!((1 : Int) == 0) && !((1 : Int) == 1)) ct ((1 : Int) == 0) m h s l30 true l2 sa hg vt false = 0 ∧ chkP kn hi (!((1 : Int) == 0) && !((1 : Int) == 1)) ct ((1 : Int) == 0) m h s l30 false l2 sa hg vt false = 0) := by decide +kernel
/-- What a user, a supervisor, a machine meet. -/
def abcB (a b c : Int) (v : Bool) : Bool :=
  ((a == 2 && b == 2 && c == 2) || (a == 2 && b == 2 && c == 0) || (a == 0 && b == 0 && c == 0) || (a == 2 && b == 0 && c == 0)) || (v && ((a == 22 && b == 22 && c == 0) || (a == 22 && b == 0 && c == 0)))
theorem rises_bools : ∀ (kn hi ct m h s l30 v l2 sa hg vt tv : Bool), abcB (chkP kn hi false ct true m h s l30 v l2 sa hg vt tv) (chkP kn hi false ct false m h s l30 v l2 sa hg vt tv) (chkP kn hi true ct false m h s l30 v l2 sa hg vt tv) v = true := by decide +kernel
/-- What writing and reading meet. -/
def xyB (x y : Int) : Bool := (x == 0 && y == 0) || (x == 2 && y == 2) || (x == 22 && y == 22) || (x == 2 && y == 0) || (x == 2 && y == 22)
theorem reads_bools : ∀ (kn hi mc ct p0 m h s l30 v l2 sa hg vt tv : Bool), ((kn || (chkP kn hi mc ct p0 m h s l30 v l2 sa hg vt tv == 2 && chkP kn false mc ct p0 m h s l30 v l2 sa hg vt tv == 2)) && xyB (chkP kn hi mc ct p0 m h s l30 v l2 sa hg vt tv) (chkP kn false mc ct p0 m h s l30 v l2 sa hg vt tv)) = true := by decide +kernel
end Go.Proofs.Ytcnalabhcalfnaa
