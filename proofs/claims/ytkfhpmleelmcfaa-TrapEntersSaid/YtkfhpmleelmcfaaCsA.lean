/- Layer 12: the registers as tables; what reading, writing and fixing tell, in plain words (written by gen_csa.py). -/
import Derived.Test.YtkfhpmleelmcfaaHaSt
import Derived.Test.YtkfhpmleelmcfaaWk3
namespace Go.Proofs.Ytkfhpmleelmcfaa
open Go.RowKit
set_option linter.unusedVariables false
set_option maxRecDepth 100000

/-- The registers that have a field: their numbers, their cells, their masks, what is set (in the program's order; behind them sstatus and mip, for their masks). -/
def rgL : List Int := [768, 770, 771, 772, 773, 774, 832, 833, 834, 835, 843, 842, 2816, 2818, 261, 262, 320, 321, 322, 323, 384, 1536, 1538, 1539, 1605, 1542, 1543, 1603, 1610, 1664, 1541, 512, 517, 576, 577, 578, 579, 640]
def clL : List Nat := [38, 39, 40, 41, 43, 44, 45, 46, 47, 48, 49, 50, 75, 76, 51, 52, 53, 54, 55, 56, 57, 58, 59, 60, 61, 62, 63, 64, 65, 66, 67, 68, 69, 70, 71, 72, 73, 74]
def mkL : List Int := [824641984938, 15775743, 546, 7918, 18446744073709551613, 7, 18446744073709551615, 18446744073709551612, 18446744073709551615, 18446744073709551615, 18446744073709551615, 18446744073709551615, 18446744073709551615, 18446744073709551615, 18446744073709551613, 7, 18446744073709551615, 18446744073709551612, 18446744073709551615, 18446744073709551615, 18446744073709551615, 7345088, 45567, 1092, 1092, 7, 2, 18446744073709551615, 18446744073709551615, 17582052945254416380, 18446744073709551615, 786722, 18446744073709551613, 18446744073709551615, 18446744073709551612, 18446744073709551615, 18446744073709551615, 18446744073709551615]
def seL : List Int := [42949672960, 0, 5188, 0, 0, 0, 0, 0, 0, 0, 0, 0, 0, 0, 0, 0, 0, 0, 0, 0, 0, 8589934592, 0, 0, 0, 0, 0, 0, 0, 0, 0, 8589934592, 0, 0, 0, 0, 0, 0]
def noF (k : Nat) : Int := rgL.getD k 0
def clF (k : Nat) : Nat := clL.getD k 0
def mkF (k : Nat) : Int := mkL.getD k 0
def seF (k : Nat) : Int := seL.getD k 0
/-- Which register's number it is; which register's cell (38: of none). -/
def ixF (no : Int) : Nat := rgL.findIdx (· == no)
def icF (c : Nat) : Nat := clL.findIdx (· == c)
theorem getD_lt {l : List Int} (k : Nat) (d : Int) (h : k < l.length) : l.getD k d = l[k] := by simp [List.getD, h]
theorem ixF_cases (no : Int) : (ixF no < 38 ∧ noF (ixF no) = no) ∨ (ixF no = 38 ∧ ∀ k, k < 38 → ¬ noF k = no) := by
  have hl : rgL.length = 38 := rfl
  by_cases h : ixF no < 38
  · refine .inl ⟨h, ?_⟩
    have := List.findIdx_getElem (xs := rgL) (p := (· == no)) (w := h)
    unfold noF
    rw [getD_lt _ _ (by rw [hl]; exact h)]
    exact eq_of_beq this
  · have hle : ixF no ≤ 38 := hl ▸ List.findIdx_le_length
    refine .inr ⟨by omega, fun k hk e => ?_⟩
    have h1 : rgL.findIdx (· == no) = rgL.length := by
      have : ixF no = 38 := by omega
      rw [hl]; exact this
    rw [List.findIdx_eq_length] at h1
    have h2 := h1 (rgL[k]'(by rw [hl]; exact hk)) (List.getElem_mem _)
    unfold noF at e
    rw [getD_lt _ _ (by rw [hl]; exact hk)] at e
    rw [e] at h2
    simp at h2
theorem ixF_no : ∀ k, k < 38 → ixF (noF k) = k := by decide +kernel
theorem icF_cl : ∀ k, k < 38 → icF (clF k) = k := by decide +kernel
theorem clF_in : ∀ k, k < 38 → 37 < clF k ∧ clF k < 77 ∧ ¬ clF k = 42 := by decide +kernel
theorem clF_ic : ∀ i, i < 77 → icF i < 38 → clF (icF i) = i := by decide +kernel
theorem mkF_in : ∀ k, k < 38 → 0 ≤ mkF k ∧ mkF k < 18446744073709551616 ∧ 0 ≤ seF k ∧ seF k < 18446744073709551616 := by decide +kernel

/-- o with the bits of m as v has them. -/
def mergeZ (o m v : Int) : Int := bits .or .u64 (bits .andNot .u64 o m) (bits .and .u64 v m)
def noModeB (x : Int) : Bool := bits .and .u64 x 6144 == 4096
def noTabB (x : Int) : Bool := x / 1152921504606846976 != 0 && x / 1152921504606846976 != 8
def whenZ (b : Bool) (x : Int) : Int := if b then x else 0
/-- What is pending. -/
def pendZ (t : HS) (l : LS) : Int :=
  bits .or .u64 (bits .or .u64 (bits .or .u64 (bits .or .u64 (bits .or .u64 (bits .or .u64 (bits .or .u64 (t.n 42) (t.n 61)) (whenZ l.ms 8)) (whenZ l.mt 128)) (whenZ l.me 2048)) (whenZ l.se 512))
    (whenZ (bitZ (t.n 58) 12 && bitZ l.g 1) 1024)) (whenZ (bits .and .u64 l.g (t.n 63) != 0) 4096)
/-- The register that is meant. -/
def nineB (no : Int) : Bool := no == 256 || (no == 260 || (no == 261 || (no == 320 || (no == 321 || (no == 322 || (no == 323 || (no == 324 || (no == 384))))))))
def meantZ (v : Bool) (no : Int) : Int := if v && nineB no then no + 256 else no
/-- What is put into a field. -/
def putZ (k : Nat) (o v : Int) : Int :=
  if k = 0 then mergeZ o (if noModeB v then bits .andNot .u64 (mkF 0) 6144 else mkF 0) v
  else if k = 20 ∨ k = 37 ∨ k = 29 then (if noTabB v then o else mergeZ o (mkF k) v) else mergeZ o (mkF k) v
/-- What the views tell, and what writing them does. -/
def viewR (t : HS) (l : LS) (m : Int) : Int :=
  if m = 256 then bits .or .u64 (bits .and .u64 (t.n 38) 786722) 8589934592
  else if m = 836 then pendZ t l
  else if m = 324 then bits .and .u64 (pendZ t l) (bits .and .u64 546 (t.n 40))
  else if m = 1604 then bits .and .u64 (pendZ t l) 5188
  else if m = 580 then bits .and .u64 (pendZ t l) (bits .and .u64 1092 (t.n 60)) / 2
  else if m = 260 then bits .and .u64 (t.n 41) (bits .and .u64 546 (t.n 40))
  else if m = 1540 then bits .and .u64 (t.n 41) 5188
  else if m = 516 then bits .and .u64 (t.n 41) (bits .and .u64 1092 (t.n 60)) / 2
  else if m = 3602 then bits .and .u64 l.g 2
  else if m = 3072 then t.n 75
  else if m = 3074 then t.n 76
  else if m = 3073 then (if t.v then IntKind.u64.wrap (l.tm + t.n 67) else l.tm)
  else if m = 769 then 9223372036856091009
  else 0
def viewW (t : HS) (m v : Int) : HS :=
  if m = 256 then t.put 38 (mergeZ (t.n 38) 786722 v)
  else if m = 836 then (t.put 42 (mergeZ (t.n 42) 546 v)).put 61 (mergeZ (t.n 61) 4 v)
  else if m = 1604 then t.put 61 (mergeZ (t.n 61) 4 v)
  else if m = 324 then t.put 42 (mergeZ (t.n 42) (bits .and .u64 2 (t.n 40)) v)
  else if m = 580 then t.put 61 (mergeZ (t.n 61) (bits .and .u64 4 (t.n 60)) (IntKind.u64.wrap (v * 2)))
  else if m = 260 then t.put 41 (mergeZ (t.n 41) (bits .and .u64 546 (t.n 40)) v)
  else if m = 1540 then t.put 41 (mergeZ (t.n 41) 5188 v)
  else if m = 516 then t.put 41 (mergeZ (t.n 41) (bits .and .u64 1092 (t.n 60)) (IntKind.u64.wrap (v * 2)))
  else t
/-- What a register says; the hart behind writing it. -/
def readM (t : HS) (l : LS) (m : Int) : Int := if ixF m < 38 then t.n (clF (ixF m)) else viewR t l m
def writeM (t : HS) (m v : Int) : HS := if ixF m < 38 then t.put (clF (ixF m)) (putZ (ixF m) (t.n (clF (ixF m))) v) else viewW t m v
def readZ (t : HS) (l : LS) (no : Int) : Int := readM t l (meantZ t.v no)
def baseZ (t : HS) (l : LS) (no : Int) : Int := readZ t (if no = 836 then { l with se := false } else l) no
def writeZ (t : HS) (no v : Int) : HS := writeM t (meantZ t.v no) v
/-- What a cell becomes when the hart is fixed. -/
def maskZ (k : Nat) (x : Int) : Int := bits .or .u64 (bits .and .u64 x (mkF k)) (seF k)
def fixN (t : HS) (i : Nat) : Int :=
  if i = 0 then bits .andNot .u64 (t.n 0) 3
  else if i = 1 then 0
  else if i = 33 then (if t.n 33 = 1 ∨ t.n 33 = 3 then t.n 33 else 0)
  else if i = 37 then (if t.held then bits .and .u64 (t.n 37) 72057594037927928 else 0)
  else if i = 42 then bits .and .u64 (t.n 42) 546
  else if i = 38 then (if noModeB (maskZ 0 (t.n 38)) then bits .andNot .u64 (maskZ 0 (t.n 38)) 6144 else maskZ 0 (t.n 38))
  else if i = 57 then (if noTabB (maskZ 20 (t.n 57)) then 0 else maskZ 20 (t.n 57))
  else if i = 66 then (if noTabB (maskZ 29 (t.n 66)) then 0 else maskZ 29 (t.n 66))
  else if i = 74 then (if noTabB (maskZ 37 (t.n 74)) then 0 else maskZ 37 (t.n 74))
  else if icF i < 38 then maskZ (icF i) (t.n i)
  else t.n i
def fixZ (t : HS) : HS := { n := fixN t, v := t.v && (t.n 33 != 3), wait := t.wait, held := t.held }
/-- A number that is none of a list. -/
def NeAll (m : Int) : List Int → Prop
  | [] => True
  | x :: t => ¬ m = x ∧ NeAll m t
theorem NeAll.mem {m : Int} : ∀ {l : List Int}, NeAll m l → ∀ x ∈ l, ¬ m = x
  | [], _, x, h => by cases h
  | y :: t, hn, x, h => by
    rcases List.mem_cons.1 h with rfl | h
    · exact hn.1
    · exact hn.2.mem x h
theorem and_in (x y : Int) : In64 (bits .and .u64 x y) := by rw [bits_and]; exact U_in _
theorem or_in (x y : Int) : In64 (bits .or .u64 x y) := by rw [bits_or]; exact U_in _
theorem andNot_in (x y : Int) : In64 (bits .andNot .u64 x y) := by rw [bits_andNot]; exact U_in _
theorem or_zero {x : Int} (h : In64 x) : bits .or .u64 x 0 = x := by rw [bits_or, V_zero, BitVec.or_zero, U_V h]
theorem merge_in (o m v : Int) : In64 (mergeZ o m v) := or_in _ _
end Go.Proofs.Ytkfhpmleelmcfaa
