/- The document's numbers of layer 8, by lists of bits. Plain Lean; nothing of the program. -/
import Derived.Test.YtehlihhnkojjeaaDoorFk
namespace Go.Proofs.YtehlihhnkojjeaaDoor
open Go.RowKit
set_option linter.unusedVariables false

/-- m numbers from a on, downwards. -/
def down (a : Int) (m : Nat) : List Int := (List.range m).map fun (j : Nat) => a - (j : Int)
theorem down_succ (a : Int) (m : Nat) : down a (m + 1) = down a m ++ [a - (m : Int)] := by unfold down; rw [List.range_succ, List.map_append]; rfl
theorem down_len (a : Int) (m : Nat) : (down a m).length = m := by unfold down; simp
/-- Each form's bits. -/
def formP : Nat → List Int
  | 1 => down 31 12
  | 2 => down 31 7 ++ down 11 5
  | 3 => [31, 7, 30, 29, 28, 27, 26, 25, 11, 10, 9, 8, -1]
  | 4 => down 31 20 ++ List.replicate 12 (-1)
  | 5 => [31, 19, 18, 17, 16, 15, 14, 13, 12, 20, 30, 29, 28, 27, 26, 25, 24, 23, 22, 21, -1]
  | 6 => [25, 24, 23, 22, 21, 20]
  | 7 => [24, 23, 22, 21, 20]
  | 8 => down 31 12
  | 9 => [19, 18, 17, 16, 15]
  | _ => []

/-- A bit that a place tells (-1: a nought). -/
def plZ (x p : Int) : Int := if 0 ≤ p then bitZ x p else 0
theorem plZ_01 (x p : Int) : 0 ≤ plZ x p ∧ plZ x p < 2 := by unfold plZ; split; exact bitZ_01 x p; omega
/-- The number that places make, the highest first. -/
def numD (x : Int) (l : List Int) : Int := l.foldl (fun n p => 2 * n + plZ x p) 0
theorem numD_snoc (x : Int) (l : List Int) (p : Int) : numD x (l ++ [p]) = 2 * numD x l + plZ x p := by unfold numD; rw [List.foldl_append]; rfl
theorem take_snoc' (xs : List Int) (k : Nat) (h : k < xs.length) : xs.take (k + 1) = xs.take k ++ [xs.getD k 0] := by
  rw [List.take_add_one, List.getElem?_eq_getElem h]; simp [List.getD, h]
theorem numD_take (x : Int) (xs : List Int) (k : Nat) (h : k < xs.length) : numD x (xs.take (k + 1)) = 2 * numD x (xs.take k) + plZ x (xs.getD k 0) := by
  rw [take_snoc' xs k h, numD_snoc]
theorem numD_bd (x : Int) (xs : List Int) (k : Nat) (h : k ≤ xs.length) : 0 ≤ numD x (xs.take k) ∧ numD x (xs.take k) < 2 ^ k := by
  induction k with
  | zero => exact ⟨Int.le_refl _, (by decide : (0 : Int) < 2 ^ 0)⟩
  | succ k ih =>
    have a := ih (by omega)
    have b := plZ_01 x (xs.getD k 0)
    rw [numD_take x xs k (by omega), Int.pow_succ]
    omega
theorem numD_le (x : Int) (xs : List Int) (k : Nat) (h : k ≤ xs.length) (h2 : xs.length ≤ 32) : 0 ≤ numD x (xs.take k) ∧ numD x (xs.take k) < 4294967296 := by
  have a := numD_bd x xs k h
  have b := (pow_le_32 (l := k) (by omega)).2
  omega

/-- One bit of a signed number. -/
def bitN (n : Int) (j : Nat) : Int := n / 2 ^ j % 2
theorem bitN_01 (n : Int) (j : Nat) : bitN n j = 0 ∨ bitN n j = 1 := by unfold bitN; omega
theorem bitN_and (n : Int) (j : Nat) : bits .and .i64 (n / 2 ^ j) 1 = bitN n j := by rw [and_one_i64]; rfl
/-- Whether the place i is a nought where n has a 1. -/
def badAt (n : Int) (l : List Int) (i : Nat) : Bool := decide (l.getD i 0 < 0) && bitN n (l.length - 1 - i) == 1
/-- The document's Fits, of a form with these places. -/
def fitsD (n : Int) (sg : Bool) (l : List Int) : Bool :=
  decide ((if sg then -(2 : Int) ^ (l.length - 1) else 0) ≤ n ∧ n ≤ (if sg then (2 : Int) ^ (l.length - 1) - 1 else 2 ^ l.length - 1)) && !(List.range l.length).any (badAt n l)
theorem fitsD_out {n : Int} {sg : Bool} {l : List Int} (h : ¬ ((if sg then -(2 : Int) ^ (l.length - 1) else 0) ≤ n ∧ n ≤ (if sg then (2 : Int) ^ (l.length - 1) - 1 else 2 ^ l.length - 1))) : fitsD n sg l = false := by
  unfold fitsD; rw [decide_eq_false h]; rfl
theorem fitsD_bad {n : Int} {sg : Bool} {l : List Int} {i : Nat} (hi : i < l.length) (h : badAt n l i = true) : fitsD n sg l = false := by
  unfold fitsD
  have : (List.range l.length).any (badAt n l) = true := List.any_eq_true.2 ⟨i, List.mem_range.2 hi, h⟩
  rw [this]; simp
theorem fitsD_yes {n : Int} {sg : Bool} {l : List Int} (h : (if sg then -(2 : Int) ^ (l.length - 1) else 0) ≤ n ∧ n ≤ (if sg then (2 : Int) ^ (l.length - 1) - 1 else 2 ^ l.length - 1)) (hb : ∀ i, i < l.length → badAt n l i = false) : fitsD n sg l = true := by
  unfold fitsD
  have : (List.range l.length).any (badAt n l) = false := List.any_eq_false.2 fun i hi => by rw [hb i (List.mem_range.1 hi)]; simp
  rw [decide_eq_true h, this]; rfl
/-- The word that the document's Put makes of the first j places; and that of Bits. -/
def putD (n : Int) (l : List Int) : Nat → Int
  | 0 => 0
  | j + 1 => if 0 ≤ l.getD j 0 ∧ bitN n (l.length - 1 - j) = 1 then bits .or .u32 (putD n l j) (IntKind.u32.wrap (2 ^ (l.getD j 0).toNat)) else putD n l j
def bitsD (l : List Int) : Nat → Int
  | 0 => 0
  | j + 1 => if 0 ≤ l.getD j 0 then bits .or .u32 (bitsD l j) (IntKind.u32.wrap (2 ^ (l.getD j 0).toNat)) else bitsD l j
/-- What the document's Number tells of a form with these places. -/
def numR (x : Int) (sg : Bool) (l : List Int) : Int := numD x l - (if sg && bitZ x 31 == 1 then 2 ^ l.length else 0)

end Go.Proofs.YtehlihhnkojjeaaDoor
