/- Layer 12: what reading tells is in range (written by gen_cso.py). -/
import Derived.Test.YtiblfdgmleckiaaCsQ
namespace Go.Proofs.Ytiblfdgmleckiaa
open Go.RowKit
set_option linter.unusedVariables false
set_option maxRecDepth 100000

theorem half_in {x : Int} (h : In64 x) : In64 (x / 2) := by unfold In64 at *; omega
theorem read_in {t : HS} (ok : HOk t) {l : LS} (lk : LOk l) (no : Int) : In64 (readZ t l no) := by
  unfold readZ readM
  generalize meantZ t.v no = m
  by_cases h : ixF m < 38
  · rw [if_pos h]; exact ok.n _
  rw [if_neg h]
  unfold viewR
  by_cases c1 : m = 256
  · rw [if_pos c1]; exact or_in _ _
  rw [if_neg c1]
  by_cases c2 : m = 836
  · rw [if_pos c2]; exact pend_in _ _
  rw [if_neg c2]
  by_cases c3 : m = 324
  · rw [if_pos c3]; exact and_in _ _
  rw [if_neg c3]
  by_cases c4 : m = 1604
  · rw [if_pos c4]; exact and_in _ _
  rw [if_neg c4]
  by_cases c5 : m = 580
  · rw [if_pos c5]; exact half_in (and_in _ _)
  rw [if_neg c5]
  by_cases c6 : m = 260
  · rw [if_pos c6]; exact and_in _ _
  rw [if_neg c6]
  by_cases c7 : m = 1540
  · rw [if_pos c7]; exact and_in _ _
  rw [if_neg c7]
  by_cases c8 : m = 516
  · rw [if_pos c8]; exact half_in (and_in _ _)
  rw [if_neg c8]
  by_cases c9 : m = 3602
  · rw [if_pos c9]; exact and_in _ _
  rw [if_neg c9]
  by_cases d1 : m = 3072
  · rw [if_pos d1]; exact ok.n _
  rw [if_neg d1]
  by_cases d2 : m = 3074
  · rw [if_pos d2]; exact ok.n _
  rw [if_neg d2]
  by_cases d3 : m = 3073
  · rw [if_pos d3]; cases t.v
    · exact lk.tm
    · exact wrap_in _
  rw [if_neg d3]
  by_cases d4 : m = 769
  · rw [if_pos d4]; unfold In64; decide
  rw [if_neg d4]; unfold In64; decide
theorem base_in {t : HS} (ok : HOk t) {l : LS} (lk : LOk l) (no : Int) : In64 (baseZ t l no) := by
  unfold baseZ
  by_cases h : no = 836
  · rw [if_pos h]; exact read_in (l := { l with se := false }) ok ⟨lk.g, lk.tm⟩ no
  · rw [if_neg h]; exact read_in ok lk no
end Go.Proofs.Ytiblfdgmleckiaa
