/- Layer 11: the registers, plain (written by gen_cna.py). -/
import Derived.WalkKit
import Derived.Lib.Hide
namespace Go.Proofs.Ytiblfdgmleckiaa
open Go.RowKit
set_option linter.unusedVariables false
set_option maxRecDepth 100000

/-- The registers' numbers, rising. -/
def noL : List Nat := [256, 260, 261, 262, 320, 321, 322, 323, 324, 384, 512, 516, 517, 576, 577, 578, 579, 580, 640, 768, 769, 770, 771, 772, 773, 774, 832, 833, 834, 835, 836, 842, 843, 1536, 1538, 1539, 1540, 1541, 1542, 1543, 1603, 1604, 1605, 1610, 1664, 2816, 2818, 3072, 3073, 3074, 3602, 3857, 3858, 3859, 3860, 3861]
/-- Their names' bytes. -/
def nmL : List (List UInt8) := [[115, 115, 116, 97, 116, 117, 115], [115, 105, 101], [115, 116, 118, 101, 99], [115, 99, 111, 117, 110, 116, 101, 114, 101, 110], [115, 115, 99, 114, 97, 116, 99, 104], [115, 101, 112, 99], [115, 99, 97, 117, 115, 101], [115, 116, 118, 97, 108], [115, 105, 112], [115, 97, 116, 112], [118, 115, 115, 116, 97, 116, 117, 115], [118, 115, 105, 101], [118, 115, 116, 118, 101, 99], [118, 115, 115, 99, 114, 97, 116, 99, 104], [118, 115, 101, 112, 99], [118, 115, 99, 97, 117, 115, 101], [118, 115, 116, 118, 97, 108], [118, 115, 105, 112], [118, 115, 97, 116, 112], [109, 115, 116, 97, 116, 117, 115], [109, 105, 115, 97], [109, 101, 100, 101, 108, 101, 103], [109, 105, 100, 101, 108, 101, 103], [109, 105, 101], [109, 116, 118, 101, 99], [109, 99, 111, 117, 110, 116, 101, 114, 101, 110], [109, 115, 99, 114, 97, 116, 99, 104], [109, 101, 112, 99], [109, 99, 97, 117, 115, 101], [109, 116, 118, 97, 108], [109, 105, 112], [109, 116, 105, 110, 115, 116], [109, 116, 118, 97, 108, 50], [104, 115, 116, 97, 116, 117, 115], [104, 101, 100, 101, 108, 101, 103], [104, 105, 100, 101, 108, 101, 103], [104, 105, 101], [104, 116, 105, 109, 101, 100, 101, 108, 116, 97], [104, 99, 111, 117, 110, 116, 101, 114, 101, 110], [104, 103, 101, 105, 101], [104, 116, 118, 97, 108], [104, 105, 112], [104, 118, 105, 112], [104, 116, 105, 110, 115, 116], [104, 103, 97, 116, 112], [109, 99, 121, 99, 108, 101], [109, 105, 110, 115, 116, 114, 101, 116], [99, 121, 99, 108, 101], [116, 105, 109, 101], [105, 110, 115, 116, 114, 101, 116], [104, 103, 101, 105, 112], [109, 118, 101, 110, 100, 111, 114, 105, 100], [109, 97, 114, 99, 104, 105, 100], [109, 105, 109, 112, 105, 100], [109, 104, 97, 114, 116, 105, 100], [109, 99, 111, 110, 102, 105, 103, 112, 116, 114]]
def noT (i : Nat) : Nat := noL.getD i 0
def nmT (i : Nat) : ByteArray := ⟨(nmL.getD i []).toArray⟩
theorem noT_lt : ∀ i, i < 56 → noT i < 4096 := by decide +kernel
theorem noT_mono : ∀ i, i < 56 → ∀ j, j < i → noT j < noT i := by decide +kernel
theorem nm_apart : ∀ i, i < 56 → ∀ j, j < i → ¬ nmL.getD j [] = nmL.getD i [] := by decide +kernel
theorem nm_some : ∀ i, i < 56 → ¬ nmL.getD i [] = [] := by decide +kernel
theorem nmT_56 : nmT 56 = ⟨#[]⟩ := rfl
theorem noT_inj {i j : Nat} (hi : i < 56) (hj : j < 56) (h : noT i = noT j) : i = j := by
  rcases Nat.lt_trichotomy i j with c | c | c
  · have := noT_mono j hj i c; omega
  · exact c
  · have := noT_mono i hi j c; omega
theorem nmT_inj {i j : Nat} (hi : i < 56) (hj : j < 56) (h : nmT i = nmT j) : i = j := by
  have e : nmL.getD i [] = nmL.getD j [] := by
    have := congrArg (fun b : ByteArray => b.data.toList) h
    simpa [nmT] using this
  rcases Nat.lt_trichotomy i j with c | c | c
  · exact absurd e (nm_apart j hj i c)
  · exact c
  · exact absurd e.symm (nm_apart i hi j c)
theorem nmT_ne {i : Nat} (hi : i < 56) : ¬ nmT i = ⟨#[]⟩ := by
  intro h
  have := congrArg (fun b : ByteArray => b.data.toList) h
  exact nm_some i hi (by simpa [nmT] using this)

/-- The place of the register that has this number, or 56. -/
def ixN (no : Int) : Nat := ((List.range 56).find? fun i => decide ((noT i : Int) = no)).getD 56
theorem ixN_at {k : Nat} (hk : k < 56) : ixN (noT k) = k := by
  unfold ixN
  cases e : (List.range 56).find? fun i => decide ((noT i : Int) = (noT k : Int)) with
  | none => have := (List.find?_eq_none.1 e) k (List.mem_range.2 hk); simp at this
  | some j =>
    have hj := List.find?_some e
    have hm := List.mem_range.1 (List.mem_of_find?_eq_some e)
    rw [decide_eq_true_eq] at hj
    show j = k
    exact noT_inj hm hk (Int.ofNat.inj hj)
theorem ixN_cases (no : Int) : (ixN no < 56 ∧ (noT (ixN no) : Int) = no) ∨ (ixN no = 56 ∧ ∀ i, i < 56 → ¬ (noT i : Int) = no) := by
  cases e : (List.range 56).find? fun i => decide ((noT i : Int) = no) with
  | none =>
    right
    refine ⟨by unfold ixN; rw [e]; rfl, fun i hi => ?_⟩
    have := (List.find?_eq_none.1 e) i (List.mem_range.2 hi)
    simpa using this
  | some j =>
    left
    have hj := List.find?_some e
    have hm := List.mem_range.1 (List.mem_of_find?_eq_some e)
    rw [decide_eq_true_eq] at hj
    have : ixN no = j := by unfold ixN; rw [e]; rfl
    rw [this]; exact ⟨hm, hj⟩
theorem ixN_le (no : Int) : ixN no ≤ 56 := by rcases ixN_cases no with ⟨h, _⟩ | ⟨h, _⟩ <;> omega
theorem ixN_none {no : Int} (h : ∀ i, i < 56 → ¬ (noT i : Int) = no) : ixN no = 56 := by
  rcases ixN_cases no with ⟨a, b⟩ | ⟨a, _⟩
  · exact absurd b (h _ a)
  · exact a
/-- The place of the register that has this name, or 56. -/
def ixS (s : ByteArray) : Nat := ((List.range 56).find? fun i => decide ((nmT i).data.toList = s.data.toList)).getD 56
theorem data_inj {a b : ByteArray} (h : a.data.toList = b.data.toList) : a = b := by
  obtain ⟨⟨a⟩⟩ := a; obtain ⟨⟨b⟩⟩ := b; simp at h; rw [h]
theorem ixS_cases (s : ByteArray) : (ixS s < 56 ∧ nmT (ixS s) = s) ∨ (ixS s = 56 ∧ ∀ i, i < 56 → ¬ nmT i = s) := by
  cases e : (List.range 56).find? fun i => decide ((nmT i).data.toList = s.data.toList) with
  | none =>
    right
    refine ⟨by unfold ixS; rw [e]; rfl, fun i hi c => ?_⟩
    have := (List.find?_eq_none.1 e) i (List.mem_range.2 hi)
    rw [c] at this; simp at this
  | some j =>
    left
    have hj := List.find?_some e
    have hm := List.mem_range.1 (List.mem_of_find?_eq_some e)
    rw [decide_eq_true_eq] at hj
    have : ixS s = j := by unfold ixS; rw [e]; rfl
    rw [this]; exact ⟨hm, data_inj hj⟩
theorem ixS_at {k : Nat} (hk : k < 56) : ixS (nmT k) = k := by
  rcases ixS_cases (nmT k) with ⟨a, b⟩ | ⟨_, b⟩
  · exact nmT_inj a hk b
  · exact absurd rfl (b k hk)
theorem ixS_none {s : ByteArray} (h : ∀ i, i < 56 → ¬ nmT i = s) : ixS s = 56 := by
  rcases ixS_cases s with ⟨a, b⟩ | ⟨a, _⟩
  · exact absurd b (h _ a)
  · exact a
/-- What Number tells. -/
def numS (s : ByteArray) : Int := if ixS s < 56 then (noT (ixS s) : Int) else -1
/-- What Name tells. -/
def nameN (no : Int) : ByteArray := nmT (ixN no)
def knownN (no : Int) : Bool := decide (ixN no < 56)
theorem knownN_iff (no : Int) : knownN no = true ↔ ¬ nameN no = ⟨#[]⟩ := by
  unfold knownN nameN
  rw [decide_eq_true_eq]
  rcases ixN_cases no with ⟨a, _⟩ | ⟨a, _⟩
  · exact ⟨fun _ => nmT_ne a, fun _ => a⟩
  · rw [a]; exact ⟨fun h => absurd h (by omega), fun h => absurd nmT_56 h⟩
end Go.Proofs.Ytiblfdgmleckiaa
