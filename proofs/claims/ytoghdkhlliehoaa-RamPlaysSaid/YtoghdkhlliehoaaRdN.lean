/- Numbers of several bytes, little end first, over a memory that is a function. Plain Lean; nothing of the program. -/
import Derived.Test.YtoghdkhlliehoaaBv
namespace Go.Proofs.Ytoghdkhlliehoaa
open Go.RowKit
set_option linter.unusedVariables false
set_option maxRecDepth 100000

/-- The number of c bytes at x. -/
def rdN (m : Int → Int) (x : Int) : Nat → Int
  | 0 => 0
  | c + 1 => m x + 256 * rdN m (x + 1) c
/-- Memory behind a number of c bytes was written at x. -/
def wrN (m : Int → Int) (x v : Int) : Nat → Int → Int
  | 0, y => m y
  | c + 1, y => if y = x then v % 256 else wrN m (x + 1) (v / 256) c y
def Bytey (m : Int → Int) : Prop := ∀ y, 0 ≤ m y ∧ m y ≤ 255

theorem rdN_in {m : Int → Int} (h : Bytey m) (x : Int) (c : Nat) : 0 ≤ rdN m x c ∧ rdN m x c < 256 ^ c := by
  induction c generalizing x with
  | zero => simp [rdN]
  | succ c ih =>
    have h1 := ih (x + 1)
    have h2 := h x
    have e : (256 : Int) ^ (c + 1) = 256 * 256 ^ c := by rw [Int.pow_succ, Int.mul_comm]
    rw [e]; unfold rdN
    omega
theorem rdN_congr {m m' : Int → Int} {x : Int} {c : Nat} (h : ∀ y, x ≤ y → y < x + c → m y = m' y) : rdN m x c = rdN m' x c := by
  induction c generalizing x with
  | zero => rfl
  | succ c ih =>
    unfold rdN
    rw [h x (by omega) (by omega), ih fun y h1 h2 => h y (by omega) (by omega)]
theorem pow256_le {a b : Nat} (h : a ≤ b) : (256 : Int) ^ a ≤ 256 ^ b := by
  have h1 := Int.ofNat_le.2 (Nat.pow_le_pow_right (n := 256) (by omega) h)
  simpa [Int.natCast_pow] using h1
theorem rdN_8 {m : Int → Int} (h : Bytey m) (x : Int) {c : Nat} (hc : c ≤ 8) : 0 ≤ rdN m x c ∧ rdN m x c ≤ 18446744073709551615 := by
  have h1 := rdN_in h x c
  have h2 := pow256_le hc
  have e : (256 : Int) ^ 8 = 18446744073709551616 := by decide
  omega
theorem rdN_7 {m : Int → Int} (h : Bytey m) (x : Int) {c : Nat} (hc : c ≤ 7) : 0 ≤ rdN m x c ∧ rdN m x c ≤ 72057594037927935 := by
  have h1 := rdN_in h x c
  have h2 := pow256_le hc
  have e : (256 : Int) ^ 7 = 72057594037927936 := by decide
  omega

theorem wrN_out {m : Int → Int} {x v : Int} {c : Nat} {y : Int} (h : y < x ∨ x + c ≤ y) : wrN m x v c y = m y := by
  induction c generalizing x v with
  | zero => rfl
  | succ c ih =>
    unfold wrN
    rw [if_neg (by omega), ih (by omega)]
theorem wrN_bytey {m : Int → Int} (h : Bytey m) (x v : Int) (c : Nat) : Bytey (wrN m x v c) := by
  induction c generalizing x v with
  | zero => exact h
  | succ c ih =>
    intro y
    unfold wrN
    by_cases e : y = x
    · rw [if_pos e]; omega
    · rw [if_neg e]; exact ih _ _ y
theorem wrN_at {m : Int → Int} {x v : Int} {c : Nat} {i : Nat} (h : i < c) : wrN m x v c (x + i) = v / 256 ^ i % 256 := by
  induction c generalizing x v i with
  | zero => omega
  | succ c ih =>
    unfold wrN
    cases i with
    | zero => simp
    | succ i =>
      rw [if_neg (by omega), show x + ((i + 1 : Nat) : Int) = x + 1 + (i : Int) by omega, ih (by omega), Int.pow_succ, Int.mul_comm, ← Int.ediv_ediv_of_nonneg (by omega)]
/-- One byte written ahead of the others. -/
theorem wrN_step (m : Int → Int) (x v : Int) (c : Nat) (y : Int) : wrN (fun z => if z = x then v % 256 else m z) (x + 1) (v / 256) c y = wrN m x v (c + 1) y := by
  show _ = if y = x then v % 256 else wrN m (x + 1) (v / 256) c y
  by_cases e : y = x
  · rw [if_pos e, wrN_out (by omega), if_pos e]
  · rw [if_neg e]
    generalize v / 256 = u
    have : ∀ (c : Nat) (x' u : Int), x < x' → wrN (fun z => if z = x then v % 256 else m z) x' u c y = wrN m x' u c y := by
      intro c
      induction c with
      | zero => intro x' u _; show (if y = x then v % 256 else m y) = m y; rw [if_neg e]
      | succ c ih =>
        intro x' u hx
        unfold wrN
        rw [ih _ _ (by omega)]
    exact this c (x + 1) u (by omega)
theorem emod_mul_pos (v P : Int) (hP : 0 < P) : v % (256 * P) = v % 256 + 256 * (v / 256 % P) := by
  have h1 := Int.emod_nonneg (v / 256) (show P ≠ 0 by omega)
  have h2 := Int.emod_lt_of_pos (v / 256) hP
  have h3 := Int.mul_ediv_add_emod (v / 256) P
  generalize hq : v / 256 / P = q at *
  generalize hr : v / 256 % P = r at *
  have h4 : v = (v % 256 + 256 * r) + (256 * P) * q := by
    have : 256 * P * q = 256 * (P * q) := by rw [Int.mul_assoc]
    omega
  have h5 : (256 * P) * q = 256 * P * q := rfl
  rw [show v % (256 * P) = ((v % 256 + 256 * r) + (256 * P) * q) % (256 * P) by rw [← h4], Int.add_mul_emod_self_left]
  exact Int.emod_eq_of_lt (by omega) (by omega)
theorem rd_wr {m : Int → Int} (x v : Int) (c : Nat) (hv : 0 ≤ v) : rdN (wrN m x v c) x c = v % 256 ^ c := by
  induction c generalizing x v m with
  | zero => simp [rdN]
  | succ c ih =>
    unfold rdN
    have e1 : wrN m x v (c + 1) x = v % 256 := by unfold wrN; rw [if_pos rfl]
    have e2 : rdN (wrN m x v (c + 1)) (x + 1) c = rdN (wrN m (x + 1) (v / 256) c) (x + 1) c := rdN_congr fun y h1 h2 => by
      show (if y = x then v % 256 else wrN m (x + 1) (v / 256) c y) = _
      rw [if_neg (by omega)]
    rw [e1, e2, ih _ _ (by omega)]
    have e : (256 : Int) ^ (c + 1) = 256 * 256 ^ c := by rw [Int.pow_succ, Int.mul_comm]
    rw [e, emod_mul_pos v (256 ^ c) (by have := Int.pow_pos (n := (256 : Int)) (m := c) (by omega); omega)]

end Go.Proofs.Ytoghdkhlliehoaa
