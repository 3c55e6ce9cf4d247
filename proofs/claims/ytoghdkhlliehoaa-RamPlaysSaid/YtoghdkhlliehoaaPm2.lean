/- The program's memory of layer 3: New, Base, Size, Has; of one that is none. -/
import Derived.Test.YtoghdkhlliehoaaPm
namespace Go.Proofs.Ytoghdkhlliehoaa
open Go.RowKit Go.Maps
set_option linter.unusedVariables false
set_option maxRecDepth 100000

/-- The struct's three cells. -/
theorem ram_cells {w : World} {b mb : Nat} {base size : Int} (h : w.heap[b]? = some (.cells #[.int .u64 base, .int .u64 size, .map (some mb)] 53 (0, 0))) :
    w.cell? ⟨b, 0, none⟩ = some (.int .u64 base) ∧ w.cell? ⟨b, 1, none⟩ = some (.int .u64 size) ∧ w.cell? ⟨b, 2, none⟩ = some (.map (some mb)) := by
  refine ⟨?_, ?_, ?_⟩
  · rw [cell_of_row w b 0 _ _ _ h]; rfl
  · rw [cell_of_row w b 1 _ _ _ h]; rfl
  · rw [cell_of_row w b 2 _ _ _ h]; rfl

theorem progBase_any {w : World} {b : Nat} {S : Nat → Prop} {base size : Int} {m : Int → Int} (h : ProgMem w b S base size m) :
    Calls Try.prog 8 #[.pointer (some ⟨b, 0, none⟩)] w fun e w' => e = .returned (.int .u64 base) ∧ w = w' := by
  obtain ⟨mb, pg, hb, _⟩ := h
  obtain ⟨c0, c1, c2⟩ := ram_cells hb
  clear hb
  go_enter Try.func8, Try.ntmps8
  go_wp2
  go_ret
  exact ⟨rfl, rfl⟩

theorem progSize_any {w : World} {b : Nat} {S : Nat → Prop} {base size : Int} {m : Int → Int} (h : ProgMem w b S base size m) :
    Calls Try.prog 9 #[.pointer (some ⟨b, 0, none⟩)] w fun e w' => e = .returned (.int .u64 size) ∧ w = w' := by
  obtain ⟨mb, pg, hb, _⟩ := h
  obtain ⟨c0, c1, c2⟩ := ram_cells hb
  clear hb
  go_enter Try.func9, Try.ntmps9
  go_wp2
  go_ret
  exact ⟨rfl, rfl⟩

theorem progHas_nil (x n : Int) (w : World) :
    Calls Try.prog 26 #[.pointer none, .int .u64 x, .int .i64 n] w fun e w' => e = .returned (.bool false) ∧ w = w' := by
  go_enter Try.func26, Try.ntmps26
  go_wp2
  go_ret
  exact ⟨rfl, rfl⟩

set_option maxHeartbeats 1000000 in
theorem progHas_any {w : World} {b : Nat} {S : Nat → Prop} {base size : Int} {m : Int → Int} (x n : Int) (h : ProgMem w b S base size m) (hf : Fits base size) (hx : In64 x) (hn : In63 n) :
    Calls Try.prog 26 #[.pointer (some ⟨b, 0, none⟩), .int .u64 x, .int .i64 n] w fun e w' => e = .returned (.bool (hasZ base size x n)) ∧ w = w' := by
  obtain ⟨mb, pg, hb, _⟩ := h
  obtain ⟨c0, c1, c2⟩ := ram_cells hb
  clear hb
  obtain ⟨f1, f2, f3, f4⟩ := hf
  have x1 := hx.1
  have x2 := hx.2
  have n1 := hn.1
  have n2 := hn.2
  by_cases a : n < 0
  · rw [show hasZ base size x n = false by unfold hasZ; rw [decide_eq_false]; omega]
    go_enter Try.func26, Try.ntmps26
    go_wp2
    go_ret
    exact ⟨rfl, rfl⟩
  by_cases z : n = 0
  · subst z
    rw [show hasZ base size x 0 = true by unfold hasZ; rw [decide_eq_true]; omega]
    go_enter Try.func26, Try.ntmps26
    go_wp2
    go_ret
    exact ⟨rfl, rfl⟩
  have zz : (n == 0) = false := by simpa using z
  have zp : 0 < n := by omega
  clear z
  by_cases c : base ≤ x
  · have d1 : 0 ≤ x - base := by omega
    have d2 : x - base ≤ 18446744073709551615 := by omega
    by_cases e : x - base < size
    · have d3 : 0 ≤ size - (x - base) := by omega
      have d4 : size - (x - base) ≤ 18446744073709551615 := by omega
      by_cases k : n ≤ size - (x - base)
      · rw [show hasZ base size x n = true by unfold hasZ; rw [decide_eq_true]; omega]
        go_enter Try.func26, Try.ntmps26
        go_wp2
        go_ret
        exact ⟨rfl, rfl⟩
      · rw [show hasZ base size x n = false by unfold hasZ; rw [decide_eq_false]; omega]
        go_enter Try.func26, Try.ntmps26
        go_wp2
        go_ret
        exact ⟨rfl, rfl⟩
    · rw [show hasZ base size x n = false by unfold hasZ; rw [decide_eq_false]; omega]
      go_enter Try.func26, Try.ntmps26
      go_wp2
      go_ret
      exact ⟨rfl, rfl⟩
  · rw [show hasZ base size x n = false by unfold hasZ; rw [decide_eq_false]; omega]
    go_enter Try.func26, Try.ntmps26
    go_wp2
    go_ret
    exact ⟨rfl, rfl⟩

theorem progTwin_nil (w : World) : Calls Try.prog 11 #[.pointer none] w fun e w' => e = .returned (.pointer none) ∧ w = w' := by
  go_enter Try.func11, Try.ntmps11
  go_wp2
  go_ret
  exact ⟨rfl, rfl⟩
theorem progPages_nil (w : World) : Calls Try.prog 13 #[.pointer none] w fun e w' => e = .returned (.slice none 0 0) ∧ w = w' := by
  go_enter Try.func13, Try.ntmps13
  go_wp2
  go_ret
  exact ⟨rfl, rfl⟩
theorem progPut_nil (x : Int) (a : Option Addr) (n c : Nat) (w : World) : Calls Try.prog 21 #[.pointer none, .int .u64 x, .slice a n c] w fun e w' => e = .returned (.bool false) ∧ w = w' := by
  go_enter Try.func21, Try.ntmps21
  go_wp2_with (go_at_call 26; refine (progHas_nil _ _ _).mono ?_; rintro e w' ⟨rfl, rfl⟩)
  go_ret
  exact ⟨rfl, rfl⟩
theorem progBytes_nil (x n : Int) (w : World) : Calls Try.prog 23 #[.pointer none, .int .u64 x, .int .i64 n] w fun e w' => e = .returned (.tuple #[.slice none 0 0, .bool false]) ∧ w = w' := by
  go_enter Try.func23, Try.ntmps23
  go_wp2_with (go_at_call 26; refine (progHas_nil _ _ _).mono ?_; rintro e w' ⟨rfl, rfl⟩)
  go_ret2
  exact ⟨rfl, rfl⟩
theorem progWrite_nil (x n v : Int) (w : World) : Calls Try.prog 16 #[.pointer none, .int .u64 x, .int .i64 n, .int .u64 v] w fun e w' => e = .returned (.bool false) ∧ w = w' := by
  cases hk : okN n
  all_goals
    have H := Lib.hid hk
    clear hk
    go_enter Try.func16, Try.ntmps16
    go_wp2_with (first
      | (go_at_call 30; refine (isLength_any _ _).mono ?_; rintro e w' ⟨rfl, rfl⟩; rw [H.out])
      | (go_at_call 26; refine (progHas_nil _ _ _).mono ?_; rintro e w' ⟨rfl, rfl⟩))
    go_ret
    exact ⟨rfl, rfl⟩
theorem progRead_nil (x n : Int) (w : World) : Calls Try.prog 17 #[.pointer none, .int .u64 x, .int .i64 n] w fun e w' => e = .returned (.tuple #[.int .u64 0, .bool false]) ∧ w = w' := by
  cases hk : okN n
  all_goals
    have H := Lib.hid hk
    clear hk
    go_enter Try.func17, Try.ntmps17
    go_wp2_with (first
      | (go_at_call 30; refine (isLength_any _ _).mono ?_; rintro e w' ⟨rfl, rfl⟩; rw [H.out])
      | (go_at_call 26; refine (progHas_nil _ _ _).mono ?_; rintro e w' ⟨rfl, rfl⟩))
    go_ret2
    exact ⟨rfl, rfl⟩

theorem nilSpec : NilSpec where
  has x n w := (progHas_nil x n w).mono fun e w' ⟨h1, h2⟩ => ⟨h1, 0, h2.symm⟩
  read x n w := (progRead_nil x n w).mono fun e w' ⟨h1, h2⟩ => ⟨h1, h2 ▸ Below.refl _ _⟩
  write x n v w := (progWrite_nil x n v w).mono fun e w' ⟨h1, h2⟩ => ⟨h1, h2 ▸ Below.refl _ _⟩
  put x a n c w := (progPut_nil x a n c w).mono fun e w' ⟨h1, h2⟩ => ⟨h1, h2 ▸ Below.refl _ _⟩
  bytes x n w := (progBytes_nil x n w).mono fun e w' ⟨h1, h2⟩ => by subst h2; exact ⟨Below.refl _ _, none, 0, 0, h1, World.ownsRow_nil _ _ _ _⟩

end Go.Proofs.Ytoghdkhlliehoaa
