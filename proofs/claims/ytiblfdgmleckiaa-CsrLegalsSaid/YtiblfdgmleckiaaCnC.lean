/- Layer 11: the search over the table; find, Name, Known. -/
import Derived.Test.YtiblfdgmleckiaaCnA
import Derived.LoopTactic
import Derived.IntWalk
import Derived.BigQuiet
import Derived.Deep.QuietTactic
import Derived.Deep.RegionHeld3
import Derived.Below
import Derived.Outline
namespace Go.Proofs.Ytiblfdgmleckiaa
open Go.RowKit
set_option linter.unusedVariables false
set_option maxRecDepth 100000

def cmpZ (x y : Int) : Int := if x < y then -1 else if y < x then 1 else 0
theorem nan_any (x : Int) (w : World) : Calls Try.prog 50 #[.int .i64 x] w fun e w' => e = .returned (.bool false) ∧ w = w' := by
  have hb : (x != x) = false := by simp
  go_enter Try.func50, Try.ntmps50
  go_wp2
  go_ret
  exact ⟨rfl, rfl⟩
theorem cmp_any (x y : Int) (c : Int) (hc : cmpZ x y = c) (w : World) : Calls Try.prog 48 #[.int .i64 x, .int .i64 y] w fun e w' => e = .returned (.int .i64 c) ∧ w = w' := by
  have HC := Lib.hid hc
  clear hc
  unfold cmpZ at HC
  by_cases h1 : x < y
  · have H : Hid (c = -1) := Lib.hid (by have := HC.out; rw [if_pos h1] at this; exact this.symm)
    clear HC
    go_enter Try.func48, Try.ntmps48
    go_wp2_with ((with_reducible refine (nan_any _ _).mono ?_); rintro e w' ⟨rfl, rfl⟩)
    go_ret
    exact ⟨by rw [H.out]; rfl, rfl⟩
  · by_cases h2 : y < x
    · have H : Hid (c = 1) := Lib.hid (by have := HC.out; rw [if_neg h1, if_pos h2] at this; exact this.symm)
      clear HC
      go_enter Try.func48, Try.ntmps48
      go_wp2_with ((with_reducible refine (nan_any _ _).mono ?_); rintro e w' ⟨rfl, rfl⟩)
      go_ret
      exact ⟨by rw [H.out]; rfl, rfl⟩
    · have H : Hid (c = 0) := Lib.hid (by have := HC.out; rw [if_neg h1, if_neg h2] at this; exact this.symm)
      clear HC
      go_enter Try.func48, Try.ntmps48
      go_wp2_with ((with_reducible refine (nan_any _ _).mono ?_); rintro e w' ⟨rfl, rfl⟩)
      go_ret
      exact ⟨by rw [H.out]; rfl, rfl⟩

set_option maxHeartbeats 1000000 in
theorem find1_any (i : Nat) (hi : i < 56) (no : Int) (b : Nat) (w : World) (c : Int) (hc : cmpZ no (noT i) = c) (hcell : w.cell? ⟨b, 0, none⟩ = some (.int .i64 no)) :
    Calls Try.prog 47 #[.int .i64 i, .pointer (some ⟨b, 0, none⟩)] w fun e w' => e = .returned (.int .i64 c) ∧ Below w.heap.size w w' := by
  have hb : b < w.heap.size := World.block_lt_of_cell? _ _ hcell
  have HA := Lib.hid fun w => at_any i hi w
  have HM := Lib.hid fun w => cmp_any no (noT i) c hc w
  have hld : ∀ w', Below w.heap.size w w' → w'.cell? ⟨b, 0, none⟩ = some (.int .i64 no) := fun w' h => (h.cell (p := ⟨b, 0, none⟩) hb).trans hcell
  have HL := Lib.hid hld
  clear hc hld
  generalize (noT i : Int) = k at *
  generalize nmT i = nm at *
  have hfl : ∀ w, (Instr.field 61 (.agg #[.int .i64 k, .string nm]) 0).run Try.prog w = .ok (.int .i64 k) w := fun _ => by kernel_rfl
  go_enter Try.func47, Try.ntmps47
  go_wp2
  go_region_held3 (fun w' => w'.cell? ⟨b, 0, none⟩ = some (.int .i64 no)) (go_keep)
    (first
      | (go_at_call 48; refine (HM.out _).mono ?_; rintro e w5 ⟨rfl, rfl⟩)
      | (go_at_call 49; refine (HA.out _).mono ?_; rintro e w4 ⟨rfl, hb4⟩; have e0 := (hb4.cell (p := ⟨b, 0, none⟩) hb).trans hcell; have HB4 : Hid (Below w.heap.size w w4) := Lib.hid (((Below.refl w.heap.size w).drew.trans hb4)); clear hb4))
  go_wp2
  go_ret
  exact ⟨rfl, HB4.out⟩

end Go.Proofs.Ytiblfdgmleckiaa
