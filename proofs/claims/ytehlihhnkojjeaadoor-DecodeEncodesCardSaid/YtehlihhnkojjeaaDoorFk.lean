/- Each form's layout keeps what the contracts ask; what each form's number and word are. Plain Lean; nothing of the program. -/
import Derived.Test.YtehlihhnkojjeaaDoorFw
namespace Go.Proofs.YtehlihhnkojjeaaDoor
open Go.RowKit
set_option linter.unusedVariables false

/-- Each form's layout. -/
def formL : Nat → Lay
  | 1 => ⟨[(31, 20)], 0, true⟩
  | 2 => ⟨[(31, 25), (11, 7)], 0, true⟩
  | 3 => ⟨[(31, 31), (7, 7), (30, 25), (11, 8)], 1, true⟩
  | 4 => ⟨[(31, 12)], 12, true⟩
  | 5 => ⟨[(31, 31), (19, 12), (20, 20), (30, 21)], 1, true⟩
  | 6 => ⟨[(25, 20)], 0, false⟩
  | 7 => ⟨[(24, 20)], 0, false⟩
  | 8 => ⟨[(31, 20)], 0, false⟩
  | 9 => ⟨[(19, 15)], 0, false⟩
  | _ => ⟨[], 0, false⟩

theorem Lay.num0 (L : Lay) (x : Int) : -1 ≤ L.num x 0 ∧ L.num x 0 ≤ 0 := by
  show -1 ≤ (if L.neg x then (-1 : Int) else 0) ∧ (if L.neg x then (-1 : Int) else 0) ≤ 0
  split <;> omega
theorem Lay.num1 (L : Lay) (x : Int) (k : Nat) (h : 0 ≤ L.l k ∧ L.l k ≤ L.h k ∧ L.h k ≤ 31) (a b : Int) (ha : a ≤ 0) (hb : 0 ≤ b) (hk : a ≤ L.num x k ∧ L.num x k ≤ b) :
    a * 2 ^ L.len k ≤ L.num x (k + 1) ∧ L.num x (k + 1) ≤ (b + 1) * 2 ^ L.len k - 1 := by
  have f := fldZ_lt (x := x) h
  have p := two_pow_pos (L.h k - L.l k + 1).toNat
  have e : L.num x (k + 1) = L.num x k * 2 ^ (L.h k - L.l k + 1).toNat + fldZ x (L.h k) (L.l k) := rfl
  unfold Lay.len
  rw [e]
  generalize (2 : Int) ^ (L.h k - L.l k + 1).toNat = q at *
  have m1 := Int.mul_le_mul_of_nonneg_right hk.1 (Int.le_of_lt p)
  have m2 := Int.mul_le_mul_of_nonneg_right hk.2 (Int.le_of_lt p)
  rw [Int.add_mul]
  omega

theorem okForm1 : (formL 1).Ok := by
  refine ⟨by decide, by decide, ?_, by decide, ?_⟩
  · intro j hj
    match j, hj with
    | 0, _ => exact (by decide : (0 : Int) ≤ 20 ∧ (20 : Int) ≤ 31 ∧ (31 : Int) ≤ 31)
    | j + 1, hj => exact absurd hj (by show ¬ j + 1 < 1; omega)
  · intro x j hj
    have b0 := (formL 1).num0 x
    have b1 := (formL 1).num1 x 0 (by decide : (0 : Int) ≤ 20 ∧ (20 : Int) ≤ 31 ∧ (31 : Int) ≤ 31) (-1) 0 (by omega) (by omega) b0
    rw [show (formL 1).len 0 = 12 from rfl] at b1
    have b1 : -4096 ≤ (formL 1).num x 1 ∧ (formL 1).num x 1 ≤ 4095 := by have := b1; rw [show 0 + 1 = 1 from rfl] at this; omega
    match j, hj with
    | 0, _ => omega
    | 1, _ => omega
    | j + 2, hj => exact absurd hj (by show ¬ j + 2 ≤ 1; omega)
theorem okForm2 : (formL 2).Ok := by
  refine ⟨by decide, by decide, ?_, by decide, ?_⟩
  · intro j hj
    match j, hj with
    | 0, _ => exact (by decide : (0 : Int) ≤ 25 ∧ (25 : Int) ≤ 31 ∧ (31 : Int) ≤ 31)
    | 1, _ => exact (by decide : (0 : Int) ≤ 7 ∧ (7 : Int) ≤ 11 ∧ (11 : Int) ≤ 31)
    | j + 2, hj => exact absurd hj (by show ¬ j + 2 < 2; omega)
  · intro x j hj
    have b0 := (formL 2).num0 x
    have b1 := (formL 2).num1 x 0 (by decide : (0 : Int) ≤ 25 ∧ (25 : Int) ≤ 31 ∧ (31 : Int) ≤ 31) (-1) 0 (by omega) (by omega) b0
    rw [show (formL 2).len 0 = 7 from rfl] at b1
    have b1 : -128 ≤ (formL 2).num x 1 ∧ (formL 2).num x 1 ≤ 127 := by have := b1; rw [show 0 + 1 = 1 from rfl] at this; omega
    have b2 := (formL 2).num1 x 1 (by decide : (0 : Int) ≤ 7 ∧ (7 : Int) ≤ 11 ∧ (11 : Int) ≤ 31) (-128) 127 (by omega) (by omega) b1
    rw [show (formL 2).len 1 = 5 from rfl] at b2
    have b2 : -4096 ≤ (formL 2).num x 2 ∧ (formL 2).num x 2 ≤ 4095 := by have := b2; rw [show 1 + 1 = 2 from rfl] at this; omega
    match j, hj with
    | 0, _ => omega
    | 1, _ => omega
    | 2, _ => omega
    | j + 3, hj => exact absurd hj (by show ¬ j + 3 ≤ 2; omega)
theorem okForm3 : (formL 3).Ok := by
  refine ⟨by decide, by decide, ?_, by decide, ?_⟩
  · intro j hj
    match j, hj with
    | 0, _ => exact (by decide : (0 : Int) ≤ 31 ∧ (31 : Int) ≤ 31 ∧ (31 : Int) ≤ 31)
    | 1, _ => exact (by decide : (0 : Int) ≤ 7 ∧ (7 : Int) ≤ 7 ∧ (7 : Int) ≤ 31)
    | 2, _ => exact (by decide : (0 : Int) ≤ 25 ∧ (25 : Int) ≤ 30 ∧ (30 : Int) ≤ 31)
    | 3, _ => exact (by decide : (0 : Int) ≤ 8 ∧ (8 : Int) ≤ 11 ∧ (11 : Int) ≤ 31)
    | j + 4, hj => exact absurd hj (by show ¬ j + 4 < 4; omega)
  · intro x j hj
    have b0 := (formL 3).num0 x
    have b1 := (formL 3).num1 x 0 (by decide : (0 : Int) ≤ 31 ∧ (31 : Int) ≤ 31 ∧ (31 : Int) ≤ 31) (-1) 0 (by omega) (by omega) b0
    rw [show (formL 3).len 0 = 1 from rfl] at b1
    have b1 : -2 ≤ (formL 3).num x 1 ∧ (formL 3).num x 1 ≤ 1 := by have := b1; rw [show 0 + 1 = 1 from rfl] at this; omega
    have b2 := (formL 3).num1 x 1 (by decide : (0 : Int) ≤ 7 ∧ (7 : Int) ≤ 7 ∧ (7 : Int) ≤ 31) (-2) 1 (by omega) (by omega) b1
    rw [show (formL 3).len 1 = 1 from rfl] at b2
    have b2 : -4 ≤ (formL 3).num x 2 ∧ (formL 3).num x 2 ≤ 3 := by have := b2; rw [show 1 + 1 = 2 from rfl] at this; omega
    have b3 := (formL 3).num1 x 2 (by decide : (0 : Int) ≤ 25 ∧ (25 : Int) ≤ 30 ∧ (30 : Int) ≤ 31) (-4) 3 (by omega) (by omega) b2
    rw [show (formL 3).len 2 = 6 from rfl] at b3
    have b3 : -256 ≤ (formL 3).num x 3 ∧ (formL 3).num x 3 ≤ 255 := by have := b3; rw [show 2 + 1 = 3 from rfl] at this; omega
    have b4 := (formL 3).num1 x 3 (by decide : (0 : Int) ≤ 8 ∧ (8 : Int) ≤ 11 ∧ (11 : Int) ≤ 31) (-256) 255 (by omega) (by omega) b3
    rw [show (formL 3).len 3 = 4 from rfl] at b4
    have b4 : -4096 ≤ (formL 3).num x 4 ∧ (formL 3).num x 4 ≤ 4095 := by have := b4; rw [show 3 + 1 = 4 from rfl] at this; omega
    match j, hj with
    | 0, _ => omega
    | 1, _ => omega
    | 2, _ => omega
    | 3, _ => omega
    | 4, _ => omega
    | j + 5, hj => exact absurd hj (by show ¬ j + 5 ≤ 4; omega)
theorem okForm4 : (formL 4).Ok := by
  refine ⟨by decide, by decide, ?_, by decide, ?_⟩
  · intro j hj
    match j, hj with
    | 0, _ => exact (by decide : (0 : Int) ≤ 12 ∧ (12 : Int) ≤ 31 ∧ (31 : Int) ≤ 31)
    | j + 1, hj => exact absurd hj (by show ¬ j + 1 < 1; omega)
  · intro x j hj
    have b0 := (formL 4).num0 x
    have b1 := (formL 4).num1 x 0 (by decide : (0 : Int) ≤ 12 ∧ (12 : Int) ≤ 31 ∧ (31 : Int) ≤ 31) (-1) 0 (by omega) (by omega) b0
    rw [show (formL 4).len 0 = 20 from rfl] at b1
    have b1 : -1048576 ≤ (formL 4).num x 1 ∧ (formL 4).num x 1 ≤ 1048575 := by have := b1; rw [show 0 + 1 = 1 from rfl] at this; omega
    match j, hj with
    | 0, _ => omega
    | 1, _ => omega
    | j + 2, hj => exact absurd hj (by show ¬ j + 2 ≤ 1; omega)
theorem okForm5 : (formL 5).Ok := by
  refine ⟨by decide, by decide, ?_, by decide, ?_⟩
  · intro j hj
    match j, hj with
    | 0, _ => exact (by decide : (0 : Int) ≤ 31 ∧ (31 : Int) ≤ 31 ∧ (31 : Int) ≤ 31)
    | 1, _ => exact (by decide : (0 : Int) ≤ 12 ∧ (12 : Int) ≤ 19 ∧ (19 : Int) ≤ 31)
    | 2, _ => exact (by decide : (0 : Int) ≤ 20 ∧ (20 : Int) ≤ 20 ∧ (20 : Int) ≤ 31)
    | 3, _ => exact (by decide : (0 : Int) ≤ 21 ∧ (21 : Int) ≤ 30 ∧ (30 : Int) ≤ 31)
    | j + 4, hj => exact absurd hj (by show ¬ j + 4 < 4; omega)
  · intro x j hj
    have b0 := (formL 5).num0 x
    have b1 := (formL 5).num1 x 0 (by decide : (0 : Int) ≤ 31 ∧ (31 : Int) ≤ 31 ∧ (31 : Int) ≤ 31) (-1) 0 (by omega) (by omega) b0
    rw [show (formL 5).len 0 = 1 from rfl] at b1
    have b1 : -2 ≤ (formL 5).num x 1 ∧ (formL 5).num x 1 ≤ 1 := by have := b1; rw [show 0 + 1 = 1 from rfl] at this; omega
    have b2 := (formL 5).num1 x 1 (by decide : (0 : Int) ≤ 12 ∧ (12 : Int) ≤ 19 ∧ (19 : Int) ≤ 31) (-2) 1 (by omega) (by omega) b1
    rw [show (formL 5).len 1 = 8 from rfl] at b2
    have b2 : -512 ≤ (formL 5).num x 2 ∧ (formL 5).num x 2 ≤ 511 := by have := b2; rw [show 1 + 1 = 2 from rfl] at this; omega
    have b3 := (formL 5).num1 x 2 (by decide : (0 : Int) ≤ 20 ∧ (20 : Int) ≤ 20 ∧ (20 : Int) ≤ 31) (-512) 511 (by omega) (by omega) b2
    rw [show (formL 5).len 2 = 1 from rfl] at b3
    have b3 : -1024 ≤ (formL 5).num x 3 ∧ (formL 5).num x 3 ≤ 1023 := by have := b3; rw [show 2 + 1 = 3 from rfl] at this; omega
    have b4 := (formL 5).num1 x 3 (by decide : (0 : Int) ≤ 21 ∧ (21 : Int) ≤ 30 ∧ (30 : Int) ≤ 31) (-1024) 1023 (by omega) (by omega) b3
    rw [show (formL 5).len 3 = 10 from rfl] at b4
    have b4 : -1048576 ≤ (formL 5).num x 4 ∧ (formL 5).num x 4 ≤ 1048575 := by have := b4; rw [show 3 + 1 = 4 from rfl] at this; omega
    match j, hj with
    | 0, _ => omega
    | 1, _ => omega
    | 2, _ => omega
    | 3, _ => omega
    | 4, _ => omega
    | j + 5, hj => exact absurd hj (by show ¬ j + 5 ≤ 4; omega)
theorem okForm6 : (formL 6).Ok := by
  refine ⟨by decide, by decide, ?_, by decide, ?_⟩
  · intro j hj
    match j, hj with
    | 0, _ => exact (by decide : (0 : Int) ≤ 20 ∧ (20 : Int) ≤ 25 ∧ (25 : Int) ≤ 31)
    | j + 1, hj => exact absurd hj (by show ¬ j + 1 < 1; omega)
  · intro x j hj
    have b0 := (formL 6).num0 x
    have b1 := (formL 6).num1 x 0 (by decide : (0 : Int) ≤ 20 ∧ (20 : Int) ≤ 25 ∧ (25 : Int) ≤ 31) (-1) 0 (by omega) (by omega) b0
    rw [show (formL 6).len 0 = 6 from rfl] at b1
    have b1 : -64 ≤ (formL 6).num x 1 ∧ (formL 6).num x 1 ≤ 63 := by have := b1; rw [show 0 + 1 = 1 from rfl] at this; omega
    match j, hj with
    | 0, _ => omega
    | 1, _ => omega
    | j + 2, hj => exact absurd hj (by show ¬ j + 2 ≤ 1; omega)
theorem okForm7 : (formL 7).Ok := by
  refine ⟨by decide, by decide, ?_, by decide, ?_⟩
  · intro j hj
    match j, hj with
    | 0, _ => exact (by decide : (0 : Int) ≤ 20 ∧ (20 : Int) ≤ 24 ∧ (24 : Int) ≤ 31)
    | j + 1, hj => exact absurd hj (by show ¬ j + 1 < 1; omega)
  · intro x j hj
    have b0 := (formL 7).num0 x
    have b1 := (formL 7).num1 x 0 (by decide : (0 : Int) ≤ 20 ∧ (20 : Int) ≤ 24 ∧ (24 : Int) ≤ 31) (-1) 0 (by omega) (by omega) b0
    rw [show (formL 7).len 0 = 5 from rfl] at b1
    have b1 : -32 ≤ (formL 7).num x 1 ∧ (formL 7).num x 1 ≤ 31 := by have := b1; rw [show 0 + 1 = 1 from rfl] at this; omega
    match j, hj with
    | 0, _ => omega
    | 1, _ => omega
    | j + 2, hj => exact absurd hj (by show ¬ j + 2 ≤ 1; omega)
theorem okForm8 : (formL 8).Ok := by
  refine ⟨by decide, by decide, ?_, by decide, ?_⟩
  · intro j hj
    match j, hj with
    | 0, _ => exact (by decide : (0 : Int) ≤ 20 ∧ (20 : Int) ≤ 31 ∧ (31 : Int) ≤ 31)
    | j + 1, hj => exact absurd hj (by show ¬ j + 1 < 1; omega)
  · intro x j hj
    have b0 := (formL 8).num0 x
    have b1 := (formL 8).num1 x 0 (by decide : (0 : Int) ≤ 20 ∧ (20 : Int) ≤ 31 ∧ (31 : Int) ≤ 31) (-1) 0 (by omega) (by omega) b0
    rw [show (formL 8).len 0 = 12 from rfl] at b1
    have b1 : -4096 ≤ (formL 8).num x 1 ∧ (formL 8).num x 1 ≤ 4095 := by have := b1; rw [show 0 + 1 = 1 from rfl] at this; omega
    match j, hj with
    | 0, _ => omega
    | 1, _ => omega
    | j + 2, hj => exact absurd hj (by show ¬ j + 2 ≤ 1; omega)
theorem okForm9 : (formL 9).Ok := by
  refine ⟨by decide, by decide, ?_, by decide, ?_⟩
  · intro j hj
    match j, hj with
    | 0, _ => exact (by decide : (0 : Int) ≤ 15 ∧ (15 : Int) ≤ 19 ∧ (19 : Int) ≤ 31)
    | j + 1, hj => exact absurd hj (by show ¬ j + 1 < 1; omega)
  · intro x j hj
    have b0 := (formL 9).num0 x
    have b1 := (formL 9).num1 x 0 (by decide : (0 : Int) ≤ 15 ∧ (15 : Int) ≤ 19 ∧ (19 : Int) ≤ 31) (-1) 0 (by omega) (by omega) b0
    rw [show (formL 9).len 0 = 5 from rfl] at b1
    have b1 : -32 ≤ (formL 9).num x 1 ∧ (formL 9).num x 1 ≤ 31 := by have := b1; rw [show 0 + 1 = 1 from rfl] at this; omega
    match j, hj with
    | 0, _ => omega
    | 1, _ => omega
    | j + 2, hj => exact absurd hj (by show ¬ j + 2 ≤ 1; omega)
theorem formL_ok (k : Nat) (hk : 1 ≤ k ∧ k ≤ 9) : (formL k).Ok := by
  match k, hk with
  | 1, _ => exact okForm1
  | 2, _ => exact okForm2
  | 3, _ => exact okForm3
  | 4, _ => exact okForm4
  | 5, _ => exact okForm5
  | 6, _ => exact okForm6
  | 7, _ => exact okForm7
  | 8, _ => exact okForm8
  | 9, _ => exact okForm9
  | k + 10, hk => omega

end Go.Proofs.YtehlihhnkojjeaaDoor
