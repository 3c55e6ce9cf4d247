/- Layer 12: the document's reading (written by gen_csh.py by walkf.py). -/
import Derived.Test.YtkfhpmleelmcfaaCsG
namespace Go.Proofs.Ytkfhpmleelmcfaa
open Go.RowKit
set_option linter.unusedVariables false
set_option maxRecDepth 100000

theorem and_asc (x a b y : Int) (h : y = bits .and .u64 x (bits .and .u64 a b)) : bits .and .u64 (bits .and .u64 x a) b = y := by
  rw [h]
  simp only [bits_and, V_U]
  rw [BitVec.and_assoc]

def docL : List Int := [256, 260, 261, 262, 320, 321, 322, 323, 324, 384, 512, 516, 517, 576, 577, 578, 579, 580, 640, 768, 769, 770, 771, 772, 773, 774, 832, 833, 834, 835, 836, 842, 843, 1536, 1538, 1539, 1540, 1541, 1542, 1543, 1603, 1604, 1605, 1610, 1664, 2816, 3072, 2818, 3074, 3073, 3602]

theorem readM_none (t : HS) (l : LS) {m : Int} (h : NeAll m docL) : readM t l m = 0 := by
  have hm := h.mem
  have n : ∀ k, k < 38 → ¬ noF k = m := fun k hk e => hm _ ((by decide +kernel : ∀ k, k < 38 → noF k ∈ docL) k hk) e.symm
  have hx : ¬ ixF m < 38 := fun c => by
    rcases ixF_cases m with ⟨_, q⟩ | ⟨q, _⟩
    · exact n _ c q
    · omega
  unfold readM viewR
  rw [if_neg hx, if_neg (hm 256 (by decide)), if_neg (hm 836 (by decide)), if_neg (hm 324 (by decide)), if_neg (hm 1604 (by decide)), if_neg (hm 580 (by decide)), if_neg (hm 260 (by decide)), if_neg (hm 1540 (by decide)), if_neg (hm 516 (by decide)), if_neg (hm 3602 (by decide)), if_neg (hm 3072 (by decide)), if_neg (hm 3074 (by decide)), if_neg (hm 3073 (by decide)), if_neg (hm 769 (by decide))]

end Go.Proofs.Ytkfhpmleelmcfaa
