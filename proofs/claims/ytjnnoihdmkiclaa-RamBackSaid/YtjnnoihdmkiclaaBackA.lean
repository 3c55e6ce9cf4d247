/- The law RamBack: its arithmetic. -/
import Derived.Test.YtjnnoihdmkiclaaLawRamKnown
namespace Go.Proofs.Ytjnnoihdmkiclaa
open Go.RowKit
set_option linter.unusedVariables false

/-- The k-th act's cells, as a law loads them. -/
theorem act_cells {B : Nat} {w : World} {b off k : Nat} {x : ActV} (h : ActAt B w ⟨b, off + k * 5, none⟩ x) :
    w.cell? ⟨b, off + k * 5, none⟩ = some (.int .i64 x.d) ∧ w.cell? ⟨b, off + k * 5 + 1, none⟩ = some (.int .u64 x.a) ∧ w.cell? ⟨b, off + k * 5 + 2, none⟩ = some (.int .i64 x.n) ∧ w.cell? ⟨b, off + k * 5 + 3, none⟩ = some (.int .u64 x.v) ∧ w.cell? ⟨b, off + k * 5 + 4, none⟩ = some x.b := by
  obtain ⟨h0, h1, h2, h3, h4, _⟩ := h
  rw [add_none] at h0 h1 h2 h3 h4
  exact ⟨h0, h1, h2, h3, h4⟩

theorem and3 {n : Int} (h : In63 n) : bits .and .i64 n 3 = n % 4 := by
  show IntKind.i64.wrap ((BitVec.ofInt 64 n &&& BitVec.ofInt 64 3).toNat : Int) = _
  have h3 : BitVec.ofInt 64 3 = BitVec.ofNat 64 (2 ^ 2 - 1) := rfl
  have e : (BitVec.ofInt 64 n &&& BitVec.ofInt 64 3).toNat = (BitVec.ofInt 64 n).toNat % 4 := by
    rw [BitVec.toNat_and]
    show (BitVec.ofInt 64 n).toNat &&& (2 ^ 2 - 1) = _
    rw [Nat.and_two_pow_sub_one_eq_mod]
  rw [e, BitVec.toNat_ofInt]
  have hk : ((((n % (2 ^ 64 : Nat)).toNat % 4 : Nat) : Int)) = n % 4 := by
    have h1 : ((n % (2 ^ 64 : Nat)).toNat : Int) = n % (2 ^ 64 : Nat) := Int.toNat_of_nonneg (Int.emod_nonneg _ (by decide))
    omega
  rw [hk]
  have := Int.emod_nonneg n (show (4 : Int) ≠ 0 by decide)
  have := Int.emod_lt_of_pos n (show (0 : Int) < 4 by decide)
  unfold IntKind.wrap
  simp [IntKind.signed, IntKind.bits]
  omega

/-- What Write leaves of a byte, read as the law says. -/
theorem back_in {base : Int} {m : Int → Int} {at_ v : Int} {c : Nat} (hf : Fits base 12288) (hc : okN c = true) (h0 : base ≤ at_) (h1 : at_ + c ≤ base + 12288) (i : Nat) (hi : i < c) : writeM base 12288 m at_ c v (at_ + i) = v / 256 ^ i % 256 := by
  have e : (okN c && hasZ base 12288 at_ c) = true := by
    unfold hasZ; rw [hc, Bool.true_and, decide_eq_true_eq]; omega
  unfold writeM; rw [if_pos e]
  exact wrN_at hi
theorem back_out {base : Int} {m : Int → Int} {at_ v : Int} {c : Nat} (y : Int) (h : y < at_ ∨ at_ + c ≤ y) : writeM base 12288 m at_ c v y = m y := by
  unfold writeM
  split
  · exact wrN_out h
  · rfl
theorem back_read {base : Int} {m : Int → Int} {at_ v : Int} {c : Nat} (hv : In64 v) (hf : Fits base 12288) (hc : okN c = true) (h0 : base ≤ at_) (h1 : at_ + c ≤ base + 12288) : readV base 12288 (writeM base 12288 m at_ c v) at_ c = (v % 256 ^ c, true) := by
  have e : (okN c && hasZ base 12288 at_ c) = true := by
    unfold hasZ; rw [hc, Bool.true_and, decide_eq_true_eq]; omega
  unfold readV writeM; rw [if_pos e, if_pos e]
  show (rdN (wrN m at_ v c) at_ c, true) = _
  rw [rd_wr at_ v c hv.1]

/-- What Bytes told of 12288 bytes, as a row of its own. -/
theorem row_of {w w' : World} {base : Int} {m : Int → Int} {r : Bool} {e : Ending} (h : BytesEnd w (bytesV base 12288 m base 12288) r e w') (hf : Fits base 12288) :
    Below w.heap.size w w' ∧ ∃ g c, e = .returned (.tuple #[.slice (some ⟨g, 0, none⟩) 12288 c, .bool r]) ∧ w.heap.size ≤ g ∧ Lays w' g ((bytesL m base 12288).map (Value.int .u8)) := by
  obtain ⟨hb, a, n, c, he, hown⟩ := h
  have hh : hasZ base 12288 base 12288 = true := by unfold hasZ; rw [decide_eq_true_eq]; omega
  have hv : bytesV base 12288 m base 12288 = bytesL m base 12288 := by unfold bytesV; rw [if_pos hh]; rfl
  rw [hv, bytesL_len] at hown
  rcases Lays.own hown with ⟨_, h0, _⟩ | ⟨g, cap, hs, hg, hl⟩
  · cases h0
  · injection hs with h1 h2 h3
    subst h1 h2 h3
    exact ⟨hb, g, c, he, hg, hl⟩
theorem row_cell {w : World} {g : Nat} {base : Int} {m : Int → Int} (h : Lays w g ((bytesL m base 12288).map (Value.int .u8))) {i : Nat} (hi : i < 12288) : w.cell? ⟨g, i, none⟩ = some (.int .u8 (m (base + i))) := by
  refine h.cell ?_
  rw [List.getElem?_map]
  unfold bytesL
  simp [hi]

/-- The halves of a number that was written. -/
theorem rd_low {m : Int → Int} (x v : Int) (c d : Nat) (hv : 0 ≤ v) (h : d ≤ c) : rdN (wrN m x v c) x d = v % 256 ^ d := by
  rw [← rd_wr (m := m) x v d hv]
  refine rdN_congr fun y h1 h2 => ?_
  obtain ⟨i, rfl⟩ : ∃ i : Nat, y = x + i := ⟨(y - x).toNat, by omega⟩
  rw [wrN_at (by omega), wrN_at (by omega)]
theorem rd_high {m : Int → Int} (x v : Int) (c d : Nat) (hv : 0 ≤ v) : rdN (wrN m x v (d + c)) (x + d) c = v / 256 ^ d % 256 ^ c := by
  rw [← rd_wr (m := m) (x + d) (v / 256 ^ d) c (Int.ediv_nonneg hv (Int.pow_nonneg (by decide)))]
  refine rdN_congr fun y h1 h2 => ?_
  obtain ⟨i, rfl⟩ : ∃ i : Nat, y = x + d + i := ⟨(y - (x + d)).toNat, by omega⟩
  rw [wrN_at (by omega), show x + (d : Int) + (i : Int) = x + ((d + i : Nat) : Int) by omega, wrN_at (by omega), Int.pow_add, Int.ediv_ediv_of_nonneg (Int.pow_nonneg (by decide))]
theorem back_half {base : Int} {m : Int → Int} {at_ v : Int} {c : Nat} (hv : In64 v) (hf : Fits base 12288) (hc : okN ((c + c : Nat) : Int) = true) (hd : okN c = true) (h0 : base ≤ at_) (h1 : at_ + c + c ≤ base + 12288) :
    readV base 12288 (writeM base 12288 m at_ ((c + c : Nat) : Int) v) at_ c = (v % 256 ^ c, true) ∧ readV base 12288 (writeM base 12288 m at_ ((c + c : Nat) : Int) v) (at_ + c) c = (v / 256 ^ c % 256 ^ c, true) := by
  have e : (okN ((c + c : Nat) : Int) && hasZ base 12288 at_ ((c + c : Nat) : Int)) = true := by
    unfold hasZ; rw [hc, Bool.true_and, decide_eq_true_eq]; omega
  have e1 : (okN c && hasZ base 12288 at_ c) = true := by
    unfold hasZ; rw [hd, Bool.true_and, decide_eq_true_eq]; omega
  have e2 : (okN c && hasZ base 12288 (at_ + c) c) = true := by
    unfold hasZ; rw [hd, Bool.true_and, decide_eq_true_eq]; omega
  unfold readV writeM; rw [if_pos e, if_pos e1, if_pos e2]
  refine ⟨?_, ?_⟩
  · show (rdN (wrN m at_ v (c + c)) at_ c, true) = _
    rw [rd_low at_ v (c + c) c hv.1 (by omega)]
  · show (rdN (wrN m at_ v (c + c)) (at_ + c) c, true) = _
    rw [rd_high at_ v c c hv.1]

end Go.Proofs.Ytjnnoihdmkiclaa
