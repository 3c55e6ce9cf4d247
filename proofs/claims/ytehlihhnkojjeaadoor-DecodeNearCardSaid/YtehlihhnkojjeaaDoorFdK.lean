/- The walks of layer 8's laws. -/
import Derived.Test.YtehlihhnkojjeaaDoorFdF
import Derived.Test.YtehlihhnkojjeaaDoorFdJ
import Derived.Test.YtehlihhnkojjeaaDoorFo
namespace Go.Proofs.YtehlihhnkojjeaaDoor
open Go.RowKit
set_option linter.unusedVariables false
set_option maxRecDepth 100000

/-- A word is its fields put together. -/
theorem whole_or (x : Int) (hx : In32 x) : bits .or .u32 (bits .or .u32 (bits .or .u32 (bits .or .u32 (bits .or .u32 (IntKind.u32.wrap (fldZ x 31 25 * 33554432)) (IntKind.u32.wrap (fldZ x 24 20 * 1048576))) (IntKind.u32.wrap (fldZ x 19 15 * 32768))) (IntKind.u32.wrap (fldZ x 14 12 * 4096))) (IntKind.u32.wrap (fldZ x 11 7 * 128))) (fldZ x 6 0) = x := by
  refine ext32 (or_in _ _) hx fun q hq => ?_
  have p : ∀ (hi : Int) (s : Nat), 0 ≤ hi ∧ (s : Int) ≤ hi ∧ hi ≤ 31 → tb (IntKind.u32.wrap (fldZ x hi s * 2 ^ s)) q = (decide (s ≤ q ∧ (q : Int) ≤ hi) && tb x q) := by
    intro hi s h
    rw [tb_wrap hq, tb_mul, fldZ_tb _ _ _ (by omega)]
    by_cases a : s ≤ q
    · rw [decide_eq_true a, Bool.true_and, show (s : Int).toNat + (q - s) = q by omega]
      congr 1
      rw [decide_eq_decide]; omega
    · rw [decide_eq_false a, decide_eq_false (show ¬ (s ≤ q ∧ (q : Int) ≤ hi) by omega)]; rfl
  rw [tb_or hq, tb_or hq, tb_or hq, tb_or hq, tb_or hq]
  have p1 := p 31 25 (by omega)
  have p2 := p 24 20 (by omega)
  have p3 := p 19 15 (by omega)
  have p4 := p 14 12 (by omega)
  have p5 := p 11 7 (by omega)
  have p6 := fldZ_tb x 6 0 (by omega) q
  rw [show (0 : Int).toNat + q = q by simp] at p6
  have r1 : tb (IntKind.u32.wrap (fldZ x 31 25 * 33554432)) q = _ := p1
  have r2 : tb (IntKind.u32.wrap (fldZ x 24 20 * 1048576)) q = _ := p2
  have r3 : tb (IntKind.u32.wrap (fldZ x 19 15 * 32768)) q = _ := p3
  have r4 : tb (IntKind.u32.wrap (fldZ x 14 12 * 4096)) q = _ := p4
  have r5 : tb (IntKind.u32.wrap (fldZ x 11 7 * 128)) q = _ := p5
  rw [r1, r2, r3, r4, r5, p6]
  cases tb x q
  · simp
  · simp only [Bool.and_true, Bool.or_eq_true, decide_eq_true_eq]
    omega

/-! ### of a form, and of none -/
theorem nat_form {f : Int} (h : isForm f) : ∃ k : Nat, f = k ∧ 1 ≤ k ∧ k ≤ 9 := ⟨f.toNat, by unfold isForm at h; omega, by unfold isForm at h; omega⟩

theorem form_cond (k : Nat) (hk : 1 ≤ k ∧ k ≤ 9) : 0 < (formP k).length ∧ (formP k).length ≤ 32 ∧ ∀ i, i < (formP k).length → (formP k).getD i 0 < 32 := by
  have h := formOk k hk
  refine ⟨h.len.1, h.len.2.1, fun i hi => ?_⟩
  by_cases c : 0 ≤ (formP k).getD i 0
  · exact (h.own i hi c).1
  · omega

theorem refNumber_form (k : Nat) (hk : 1 ≤ k ∧ k ≤ 9) (x : Int) (hx : In32 x) (w : World) :
    Calls Tryd.prog 40 #[.int .i64 k, .int .u32 x] w fun e w' => e = .returned (.tuple #[.int .i64 ((formL k).number x), .bool true]) ∧ Below w.heap.size w w' := by
  have c := form_cond k hk
  have h := formOk k hk
  rw [(formL k).number_numR h.ok (fun s => (h.top s).1), h.pl, form_sg k hk]
  exact refNumber_at k hk (formP k) rfl c.1 c.2.1 c.2.2 x hx w

theorem refPut_form_yes (k : Nat) (hk : 1 ≤ k ∧ k ≤ 9) (n : Int) (hq : ((formL k).number ((formL k).word n) == n) = true) (w : World) :
    Calls Tryd.prog 28 #[.int .i64 k, .int .i64 n] w fun e w' => e = .returned (.tuple #[.int .u32 ((formL k).word n), .bool true]) ∧ Below w.heap.size w w' := by
  have c := form_cond k hk
  have h := formOk k hk
  rw [h.fits (form_len k hk), form_sg k hk] at hq
  rw [(formL k).word_putD h.ok n (formP k) h.src]
  exact refPut_yes k hk (formP k) rfl c.1 c.2.1 c.2.2 n hq w

theorem refPut_form_no (k : Nat) (hk : 1 ≤ k ∧ k ≤ 9) (n : Int) (hq : ((formL k).number ((formL k).word n) == n) = false) (w : World) :
    Calls Tryd.prog 28 #[.int .i64 k, .int .i64 n] w fun e w' => e = .returned (.tuple #[.int .u32 0, .bool false]) ∧ Below w.heap.size w w' := by
  have c := form_cond k hk
  have h := formOk k hk
  rw [h.fits (form_len k hk), form_sg k hk] at hq
  exact refPut_no k hk (formP k) rfl c.1 c.2.1 c.2.2 n hq w

end Go.Proofs.YtehlihhnkojjeaaDoor
