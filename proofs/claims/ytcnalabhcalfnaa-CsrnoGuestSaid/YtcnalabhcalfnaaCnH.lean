/- Layer 11: Check, the program's. -/
import Derived.Test.YtcnalabhcalfnaaCnG
import Derived.Test.YtcnalabhcalfnaaHa
import Derived.Deep.CutBlock
namespace Go.Proofs.Ytcnalabhcalfnaa
open Go.RowKit
set_option linter.unusedVariables false
set_option maxRecDepth 100000

theorem has_at (x : Int) (k : Nat) (hk : k < 64) (q : Bool) (hq : bitZ x k = q) (hx : In64 x) (w : World) : Calls Try.prog 30 #[.int .u64 x, .int .i64 k] w fun e w' => e = .returned (.bool q) ∧ w = w' := by
  have h0 := hx.1
  have H := Lib.hid ((has_bit hx k).trans hq)
  clear hx hq
  go_enter Try.func30, Try.ntmps30
  go_wp2
  go_ret
  exact ⟨by rw [← H.out]; rfl, rfl⟩
/-- A register's level; whether it is only read, in the walk's words. -/
def lvZ (no : Int) : Int := bits .and .i64 (no / 2 ^ 8) 3
def roB (no : Int) : Bool := bits .and .i64 (no / 2 ^ 10) 3 == 3
def ctB (no : Int) : Bool := no == 3072 || no == 3073 || no == 3074
theorem level_any (no : Int) (h0 : 0 ≤ no) (w : World) : Calls Try.prog 24 #[.int .i64 no] w fun e w' => e = .returned (.int .i64 (lvZ no)) ∧ w = w' := by
  go_enter Try.func24, Try.ntmps24
  go_wp2
  go_ret
  exact ⟨rfl, rfl⟩
theorem onlyRead_any (no : Int) (h0 : 0 ≤ no) (w : World) : Calls Try.prog 21 #[.int .i64 no] w fun e w' => e = .returned (.bool (roB no)) ∧ w = w' := by
  go_enter Try.func21, Try.ntmps21
  go_wp2
  go_ret
  exact ⟨rfl, rfl⟩
theorem isCounter_any (no : Int) (w : World) : Calls Try.prog 22 #[.int .i64 no] w fun e w' => e = .returned (.bool (ctB no)) ∧ w = w' := by
  unfold ctB
  cases h1 : (no == 3072)
  · cases h2 : (no == 3073)
    · cases h3 : (no == 3074)
      all_goals
        go_enter Try.func22, Try.ntmps22
        go_wp2
        go_ret
        exact ⟨rfl, rfl⟩
    · go_enter Try.func22, Try.ntmps22
      go_wp2
      go_ret
      exact ⟨rfl, rfl⟩
  · go_enter Try.func22, Try.ntmps22
    go_wp2
    go_ret
    exact ⟨rfl, rfl⟩

/-- Which exception comes of a counter. -/
def ctrB (p0 v m h s : Bool) : Int := if !m then 2 else if v then (if !h then 22 else if p0 && !s then 22 else 0) else if p0 && !s then 2 else 0
set_option maxHeartbeats 4000000 in
theorem touchCounter_at (t : HS) (ok : HOk t) (k : Nat) (hk : k < 64) (p0 v m h s : Bool) (hp : (t.n 33 == 0) = p0) (hv : t.v = v) (hm : bitZ (t.n 44) k = m) (hh : bitZ (t.n 62) k = h) (hs : bitZ (t.n 52) k = s) (w : World) :
    Calls Try.prog 23 #[hartV t, .int .i64 k] w fun e w' => e = .returned (.int .i64 (ctrB p0 v m h s)) ∧ Below w.heap.size w w' := by
  have HM := Lib.hid fun w => has_at (t.n 44) k hk m hm (ok.n _) w
  have HH := Lib.hid fun w => has_at (t.n 62) k hk h hh (ok.n _) w
  have HS := Lib.hid fun w => has_at (t.n 52) k hk s hs (ok.n _) w
  have c33 := hRow_p t
  have c34 := hRow_v t
  have c44 := hRow_u t 44 (by omega) (by omega)
  have c62 := hRow_u t 62 (by omega) (by omega)
  have c52 := hRow_u t 52 (by omega) (by omega)
  rw [hv] at c34
  clear hv hm hh hs ok
  generalize t.n 33 = p at *
  generalize t.n 44 = x44 at *
  generalize t.n 62 = x62 at *
  generalize t.n 52 = x52 at *
  cases p0 <;> cases v <;> cases m <;> cases h <;> cases s
  all_goals
    go_enter Try.func23, Try.ntmps23
    go_wp2_with (first
      | ((with_reducible refine (HM.out _).mono ?_); rintro e1 w1 ⟨rfl, rfl⟩)
      | ((with_reducible refine (HH.out _).mono ?_); rintro e1 w1 ⟨rfl, rfl⟩)
      | ((with_reducible refine (HS.out _).mono ?_); rintro e1 w1 ⟨rfl, rfl⟩))
    go_ret
    exact ⟨rfl, (Below.refl _ _).alloc (Nat.le_refl _) _⟩

/-- Which exception comes of a supervisor's or a hypervisor's register, where V, and where not. -/
def gstB (p0 l2 sa vt : Bool) : Int := if p0 || l2 || (sa && vt) then 22 else 0
def hstB (p0 sa hg tv : Bool) : Int := if p0 || ((sa || hg) && tv) then 2 else 0
set_option maxHeartbeats 4000000 in
theorem touchAsGuest_at (t : HS) (ok : HOk t) (no : Int) (h0 : 0 ≤ no) (p0 l2 sa vt : Bool) (hp : (t.n 33 == 0) = p0) (hl : (lvZ no == 2) = l2) (hs : (no == 384) = sa) (hv : bitZ (t.n 58) 20 = vt) (w : World) :
    Calls Try.prog 25 #[hartV t, .int .i64 no] w fun e w' => e = .returned (.int .i64 (gstB p0 l2 sa vt)) ∧ Below w.heap.size w w' := by
  have HV : Hid (∀ w, Calls Try.prog 30 #[.int .u64 (t.n 58), .int .i64 20] w fun e w' => e = .returned (.bool vt) ∧ w = w') := Lib.hid fun w => has_at (t.n 58) 20 (by omega) vt hv (ok.n _) w
  have HL := Lib.hid fun w => level_any no h0 w
  have c33 := hRow_p t
  have c58 := hRow_u t 58 (by omega) (by omega)
  clear hv ok
  generalize t.n 33 = p at *
  generalize t.n 58 = x58 at *
  generalize lvZ no = lv at *
  cases p0 <;> cases l2 <;> cases sa <;> cases vt
  all_goals
    go_enter Try.func25, Try.ntmps25
    go_wp2_with (first
      | ((with_reducible refine (HL.out _).mono ?_); rintro e1 w1 ⟨rfl, rfl⟩)
      | ((with_reducible refine (HV.out _).mono ?_); rintro e1 w1 ⟨rfl, rfl⟩))
    go_ret
    exact ⟨rfl, (Below.refl _ _).alloc (Nat.le_refl _) _⟩
set_option maxHeartbeats 4000000 in
theorem touchAsHost_at (t : HS) (ok : HOk t) (no : Int) (p0 sa hg tv : Bool) (hp : (t.n 33 == 0) = p0) (hs : (no == 384) = sa) (hh : (no == 1664) = hg) (hv : bitZ (t.n 38) 20 = tv) (w : World) :
    Calls Try.prog 26 #[hartV t, .int .i64 no] w fun e w' => e = .returned (.int .i64 (hstB p0 sa hg tv)) ∧ Below w.heap.size w w' := by
  have HV : Hid (∀ w, Calls Try.prog 30 #[.int .u64 (t.n 38), .int .i64 20] w fun e w' => e = .returned (.bool tv) ∧ w = w') := Lib.hid fun w => has_at (t.n 38) 20 (by omega) tv hv (ok.n _) w
  have c33 := hRow_p t
  have c38 := hRow_u t 38 (by omega) (by omega)
  clear hv ok
  generalize t.n 33 = p at *
  generalize t.n 38 = x38 at *
  cases p0 <;> cases sa <;> cases hg <;> cases tv
  all_goals
    go_enter Try.func26, Try.ntmps26
    go_wp2_with ((with_reducible refine (HV.out _).mono ?_); rintro e1 w1 ⟨rfl, rfl⟩)
    go_ret
    exact ⟨rfl, (Below.refl _ _).alloc (Nat.le_refl _) _⟩
end Go.Proofs.Ytcnalabhcalfnaa
