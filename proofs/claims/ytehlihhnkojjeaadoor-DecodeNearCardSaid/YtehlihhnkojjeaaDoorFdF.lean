/- The contracts of fields' Number, Put, Fits and Bits. -/
import Derived.Test.YtehlihhnkojjeaaDoorFdE
import Derived.Test.YtehlihhnkojjeaaDoorFk
namespace Go.Proofs.YtehlihhnkojjeaaDoor
open Go.RowKit
set_option linter.unusedVariables false
set_option maxRecDepth 100000

theorem bcell {W w1 : World} (hb : Below W.heap.size W w1) : (∀ b o, b < W.heap.size → w1.cell? ⟨b, o, none⟩ = W.cell? ⟨b, o, none⟩) ∧ (∀ b o, b < W.heap.size → w1.frozen? ⟨b, o, none⟩ = W.frozen? ⟨b, o, none⟩) :=
  ⟨fun b o h => hb.cell (p := ⟨b, o, none⟩) h, fun b o h => hb.frozen (p := ⟨b, o, none⟩) h⟩
theorem find_lit (k : Nat) (hk : 1 ≤ k ∧ k ≤ 9) (w : World) :
    Calls Tryd.prog 48 #[.int .i64 k] w fun e w' => e = .returned (.tuple #[.agg #[.int .i64 ((formL k).h 0), .int .i64 ((formL k).l 0), .int .i64 ((formL k).h 1), .int .i64 ((formL k).l 1), .int .i64 ((formL k).h 2), .int .i64 ((formL k).l 2), .int .i64 ((formL k).h 3), .int .i64 ((formL k).l 3), .int .i64 ((formL k).ps.length), .int .i64 ((formL k).nt), .bool (formL k).sg], .bool true]) ∧ Below w.heap.size w w' := find_any k hk w

set_option maxRecDepth 100000 in
theorem progNumber (k : Nat) (hk : 1 ≤ k ∧ k ≤ 9) (x : Int) (w : World) :
    Calls Tryd.prog 37 #[.int .i64 k, .int .u32 x] w fun e w' => e = .returned (.tuple #[.int .i64 ((formL k).number x), .bool true]) ∧ Below w.heap.size w w' := by
  have HL := Lib.hid (formL_ok k hk)
  have HK := Lib.hid hk
  clear hk
  go_enter Tryd.func37, Tryd.ntmps37
  go_wp2_with (first
    | (go_at_call 48; refine (find_lit k HK.out _).mono ?_; rintro e w1 ⟨rfl, hb1⟩)
    | (go_at_call 49; refine (number_any (formL k) HL.out x _).mono ?_; rintro e w2 ⟨rfl, hb2⟩))
  go_ret2
  exact ⟨rfl, hb1.trans ((((Below.refl w1.heap.size w1).alloc (Nat.le_refl _) _).trans (hb2.mono (by simp))).mono hb1.size)⟩

theorem progNumber_no (f : Int) (hf : ¬ (1 ≤ f ∧ f ≤ 9)) (x : Int) (w : World) :
    Calls Tryd.prog 37 #[.int .i64 f, .int .u32 x] w fun e w' => e = .returned (.tuple #[.int .i64 0, .bool false]) ∧ Below w.heap.size w w' := by
  have HK := Lib.hid hf
  clear hf
  go_enter Tryd.func37, Tryd.ntmps37
  go_wp2_with (go_at_call 48; refine (find_no f HK.out _).mono ?_; rintro e w1 ⟨rfl, hb1⟩)
  go_ret2
  exact ⟨rfl, (hb1.alloc hb1.size _)⟩

theorem fits_is (k : Nat) (hk : 1 ≤ k ∧ k ≤ 9) (n : Int) (q : Bool) (hq : ((formL k).number ((formL k).word n) == n) = q) (w : World) :
    Calls Tryd.prog 52 #[(formL k).val, .int .i64 n] w fun e w' => e = .returned (.bool q) ∧ Below w.heap.size w w' :=
  (fits_any (formL k) (formL_ok k hk) n w).mono fun e w' ⟨he, hw⟩ => ⟨by rw [he, hq], hw⟩
set_option maxRecDepth 100000 in
theorem progPut_yes (k : Nat) (hk : 1 ≤ k ∧ k ≤ 9) (n : Int) (hq : ((formL k).number ((formL k).word n) == n) = true) (w : World) :
    Calls Tryd.prog 43 #[.int .i64 k, .int .i64 n] w fun e w' => e = .returned (.tuple #[.int .u32 ((formL k).word n), .bool true]) ∧ Below w.heap.size w w' := by
  have HL := Lib.hid (formL_ok k hk)
  have HK := Lib.hid hk
  have HF := Lib.hid (fits_is k hk n true hq)
  clear hk hq
  go_enter Tryd.func43, Tryd.ntmps43
  go_wp2_with (first
    | (go_at_call 48; refine (find_lit k HK.out _).mono ?_; rintro e w1 ⟨rfl, hb1⟩)
    | (go_at_call 52; refine (HF.out _).mono ?_; rintro e w2 ⟨rfl, hb2⟩; have HC : Hid (Below w.heap.size w w2) := Lib.hid (hb1.trans ((((Below.refl w1.heap.size w1).alloc (Nat.le_refl _) _).trans (hb2.mono (by simp))).mono hb1.size)); have hcz : w1.heap.size < w2.heap.size := (by have := hb2.size; simp at this; omega); obtain ⟨hc, hf⟩ := bcell hb2)
    | (go_at_call 53; refine (word_any (formL k) HL.out n _).mono ?_; rintro e w3 ⟨rfl, hb3⟩))
  go_ret2
  exact ⟨rfl, HC.out.trans (hb3.mono HC.out.size)⟩
theorem progPut_not (k : Nat) (hk : 1 ≤ k ∧ k ≤ 9) (n : Int) (hq : ((formL k).number ((formL k).word n) == n) = false) (w : World) :
    Calls Tryd.prog 43 #[.int .i64 k, .int .i64 n] w fun e w' => e = .returned (.tuple #[.int .u32 0, .bool false]) ∧ Below w.heap.size w w' := by
  have HK := Lib.hid hk
  have HF := Lib.hid (fits_is k hk n false hq)
  clear hk hq
  go_enter Tryd.func43, Tryd.ntmps43
  go_wp2_with (first
    | (go_at_call 48; refine (find_lit k HK.out _).mono ?_; rintro e w1 ⟨rfl, hb1⟩)
    | (go_at_call 52; refine (HF.out _).mono ?_; rintro e w2 ⟨rfl, hb2⟩))
  go_ret2
  exact ⟨rfl, hb1.trans ((((Below.refl w1.heap.size w1).alloc (Nat.le_refl _) _).trans (hb2.mono (by simp))).mono hb1.size)⟩
theorem progPut_no (f : Int) (hf : ¬ (1 ≤ f ∧ f ≤ 9)) (n : Int) (w : World) :
    Calls Tryd.prog 43 #[.int .i64 f, .int .i64 n] w fun e w' => e = .returned (.tuple #[.int .u32 0, .bool false]) ∧ Below w.heap.size w w' := by
  have HK := Lib.hid hf
  clear hf
  go_enter Tryd.func43, Tryd.ntmps43
  go_wp2_with (go_at_call 48; refine (find_no f HK.out _).mono ?_; rintro e w1 ⟨rfl, hb1⟩)
  go_ret2
  exact ⟨rfl, (hb1.alloc hb1.size _)⟩

end Go.Proofs.YtehlihhnkojjeaaDoor
