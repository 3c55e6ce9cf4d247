/- The contracts of layer 8's small calls: Field, length, bit, Signed; and the document's Field. -/
import Derived.Test.YtehlihhnkojjeaaDoorFw
import Derived.Test.YtehlihhnkojjeaaDoorRows
import Derived.WalkKit
import Derived.WalkLawsBesides
import Derived.BigQuiet
import Derived.Below
import Derived.Deep.QuietTactic
import Derived.Lib.Hide
namespace Go.Proofs.YtehlihhnkojjeaaDoor
open Go.RowKit
set_option linter.unusedVariables false

theorem ret_int {k : IntKind} {a b : Int} (h : a = b) : Ending.returned (.int k a) = .returned (.int k b) := by rw [h]
theorem ret_bool {a b : Bool} (h : a = b) : Ending.returned (.bool a) = .returned (.bool b) := by rw [h]
theorem ret_two {k : IntKind} {a b : Int} {v u : Value} (h : a = b) (h2 : v = u) : Ending.returned (.tuple #[.int k a, v]) = .returned (.tuple #[.int k b, u]) := by rw [h, h2]

theorem field_any (x hi lo : Int) (w : World) :
    Calls Tryd.prog 36 #[.int .u32 x, .int .i64 hi, .int .i64 lo] w fun e w' => e = .returned (.int .u32 (fldZ x hi lo)) ∧ w = w' := by
  by_cases h1 : lo < 0
  · have E := Lib.hid (fldZ_out (x := x) (hi := hi) (lo := lo) (by omega))
    go_enter Tryd.func36, Tryd.ntmps36
    go_wp2
    go_ret
    exact ⟨ret_int E.out.symm, rfl⟩
  by_cases h2 : hi < lo
  · have E := Lib.hid (fldZ_out (x := x) (hi := hi) (lo := lo) (by omega))
    go_enter Tryd.func36, Tryd.ntmps36
    go_wp2
    go_ret
    exact ⟨ret_int E.out.symm, rfl⟩
  by_cases h3 : 31 < hi
  · have E := Lib.hid (fldZ_out (x := x) (hi := hi) (lo := lo) (by omega))
    go_enter Tryd.func36, Tryd.ntmps36
    go_wp2
    go_ret
    exact ⟨ret_int E.out.symm, rfl⟩
  have E := Lib.hid (fldZ_in (x := x) (hi := hi) (lo := lo) (by omega) (by omega) (by omega))
  go_enter Tryd.func36, Tryd.ntmps36
  go_wp2
  go_ret
  exact ⟨ret_int E.out, rfl⟩

theorem length_any (hi lo : Int) (h : -1000 ≤ hi ∧ hi ≤ 1000 ∧ -1000 ≤ lo ∧ lo ≤ 1000) (w : World) :
    Calls Tryd.prog 60 #[.agg #[.int .i64 hi, .int .i64 lo]] w fun e w' => e = .returned (.int .i64 (hi - lo + 1)) ∧ Below w.heap.size w w' := by
  obtain ⟨h1, h2, h3, h4⟩ := h
  go_enter Tryd.func60, Tryd.ntmps60
  go_wp2
  go_ret
  exact ⟨rfl, (Below.refl _ _).alloc (Nat.le_refl _) _⟩

theorem bit_any (x k : Int) (hx : In32 x) (hk : 0 ≤ k ∧ k < 32) (w : World) :
    Calls Tryd.prog 50 #[.int .u32 x, .int .i64 k] w fun e w' => e = .returned (.int .i64 (bitZ x k)) ∧ w = w' := by
  obtain ⟨h1, h2⟩ := hk
  go_enter Tryd.func50, Tryd.ntmps50
  go_wp2
  go_ret
  exact ⟨ret_int (bitZ_in hx h1), rfl⟩

theorem signed_any (f : Int) (w : World) :
    Calls Tryd.prog 51 #[.int .i64 f] w fun e w' => e = .returned (.bool (decide (1 ≤ f ∧ f ≤ 5))) ∧ w = w' := by
  by_cases h1 : 1 ≤ f
  · by_cases h2 : f ≤ 5
    · go_enter Tryd.func51, Tryd.ntmps51
      go_wp2
      go_ret
      exact ⟨ret_bool (by simp [h1, h2]), rfl⟩
    · go_enter Tryd.func51, Tryd.ntmps51
      go_wp2
      go_ret
      exact ⟨ret_bool (by simp [h2]), rfl⟩
  · go_enter Tryd.func51, Tryd.ntmps51
    go_wp2
    go_ret
    exact ⟨ret_bool (by simp; omega), rfl⟩

theorem refField_any (x hi lo : Int) (hx : In32 x) (w : World) :
    Calls Tryd.prog 39 #[.int .u32 x, .int .i64 hi, .int .i64 lo] w fun e w' => e = .returned (.int .u32 (fldZ x hi lo)) ∧ w = w' := by
  by_cases h1 : lo < 0
  · have E := Lib.hid (fldZ_out (x := x) (hi := hi) (lo := lo) (by omega))
    go_enter Tryd.func39, Tryd.ntmps39
    go_wp2
    go_ret
    exact ⟨ret_int E.out.symm, rfl⟩
  by_cases h2 : hi < lo
  · have E := Lib.hid (fldZ_out (x := x) (hi := hi) (lo := lo) (by omega))
    go_enter Tryd.func39, Tryd.ntmps39
    go_wp2
    go_ret
    exact ⟨ret_int E.out.symm, rfl⟩
  by_cases h3 : 31 < hi
  · have E := Lib.hid (fldZ_out (x := x) (hi := hi) (lo := lo) (by omega))
    go_enter Tryd.func39, Tryd.ntmps39
    go_wp2
    go_ret
    exact ⟨ret_int E.out.symm, rfl⟩
  have E := Lib.hid (fldZ_eq (x := x) (hi := hi) (lo := lo) (by omega))
  have h0 : 0 ≤ lo := by omega
  have h31 : hi ≤ 31 := by omega
  go_enter Tryd.func39, Tryd.ntmps39
  go_wp2
  go_loop [7, 8] (fun o k => ∃ m : Nat, (m : Int) ≤ hi - lo + 1 ∧ k = .int .i64 (hi - m) ∧ o = .int .u32 (x / 2 ^ (hi - m + 1).toNat % 2 ^ m)) (fun _ k => (intOf k - lo + 1).toNat)
  case atStart => exact ⟨0, by omega, by simp, by simp [Int.emod_one]⟩
  case round =>
    obtain ⟨m, hm, rfl, rfl⟩ := hrel
    have b0 := mod_pow_lt (x / 2 ^ (hi - m + 1).toNat) m (by omega)
    by_cases hlt : lo ≤ hi - (m : Int)
    · have hst := fld_step x (hi - m).toNat m
      rw [show (hi - (m : Int)).toNat + 1 = (hi - (m : Int) + 1).toNat by omega, show (((hi - (m : Int)).toNat : Nat) : Int) = hi - m by omega] at hst
      have b1 := mod_pow_lt (x / 2 ^ (hi - m).toNat) (m + 1) (by omega)
      rw [← hst] at b1
      have b2 := bitZ_01 x (hi - m)
      have HS := Lib.hid hst
      clear hst
      generalize x / 2 ^ (hi - (m : Int) + 1).toNat % 2 ^ m = y at *
      obtain ⟨b01, b02⟩ := b0
      obtain ⟨b11, b12⟩ := b1
      obtain ⟨b21, b22⟩ := b2
      go_wp2_with (go_at_call 50; refine (bit_any _ _ hx (by omega) _).mono ?_; rintro e w' ⟨rfl, rfl⟩)
      go_round
      case rel => exact ⟨m + 1, by omega, by congr 1; omega, by rw [← show hi - (m : Int) = hi - ((m + 1 : Nat) : Int) + 1 by omega, ← HS.out]⟩
      case measure => simp [intOf]; omega
    · obtain rfl : m = (hi - lo + 1).toNat := by omega
      go_wp2
      go_ret
      exact ⟨ret_int (by rw [E.out]; congr 3; omega), rfl⟩

end Go.Proofs.YtehlihhnkojjeaaDoor
