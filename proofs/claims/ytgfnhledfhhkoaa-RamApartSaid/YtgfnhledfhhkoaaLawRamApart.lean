/- The law RamApart, walked call by call (with its helpers: a memory and its twin; a drawn region driven by hand). -/
import Derived.Test.YtgfnhledfhhkoaaLawRamKnown
import Derived.Test.YtgfnhledfhhkoaaPm14
import Derived.Deep.RegionHeld3
import Derived.Lib.Hide
import Derived.IntWalk
import Derived.StillTailTactics
import Derived.BigQuiet
import Derived.Deep.RegionWith
namespace Go.Proofs.Ytgfnhledfhhkoaa
open Go.RowKit
set_option linter.unusedVariables false

/-- The k-th act's cells, as a law loads them. -/
theorem act_cells {B : Nat} {w : World} {b off k : Nat} {x : ActV} (h : ActAt B w ⟨b, off + k * 5, none⟩ x) :
    w.cell? ⟨b, off + k * 5, none⟩ = some (.int .i64 x.d) ∧ w.cell? ⟨b, off + k * 5 + 1, none⟩ = some (.int .u64 x.a) ∧ w.cell? ⟨b, off + k * 5 + 2, none⟩ = some (.int .i64 x.n) ∧ w.cell? ⟨b, off + k * 5 + 3, none⟩ = some (.int .u64 x.v) ∧ w.cell? ⟨b, off + k * 5 + 4, none⟩ = some x.b := by
  obtain ⟨h0, h1, h2, h3, h4, _⟩ := h
  rw [add_none] at h0 h1 h2 h3 h4
  exact ⟨h0, h1, h2, h3, h4⟩

theorem and3 {n : Int} (h : In63 n) : bits .and .i64 n 3 = n % 4 := by
  show IntKind.i64.wrap ((BitVec.ofInt 64 n &&& BitVec.ofInt 64 3).toNat : Int) = _
  have h3 : BitVec.ofInt 64 3 = BitVec.ofNat 64 (2 ^ 2 - 1) := rfl
  have e : (BitVec.ofInt 64 n &&& BitVec.ofInt 64 3).toNat = (BitVec.ofInt 64 n).toNat % 4 := by
    rw [BitVec.toNat_and]
    show (BitVec.ofInt 64 n).toNat &&& (2 ^ 2 - 1) = _
    rw [Nat.and_two_pow_sub_one_eq_mod]
  rw [e, BitVec.toNat_ofInt]
  have hk : ((((n % (2 ^ 64 : Nat)).toNat % 4 : Nat) : Int)) = n % 4 := by
    have h1 : ((n % (2 ^ 64 : Nat)).toNat : Int) = n % (2 ^ 64 : Nat) := Int.toNat_of_nonneg (Int.emod_nonneg _ (by decide))
    omega
  rw [hk]
  have := Int.emod_nonneg n (show (4 : Int) ≠ 0 by decide)
  have := Int.emod_lt_of_pos n (show (0 : Int) < 4 by decide)
  unfold IntKind.wrap
  simp [IntKind.signed, IntKind.bits]
  omega

/-- What Write leaves of a byte, read as the law says. -/
theorem back_in {base : Int} {m : Int → Int} {at_ v : Int} {c : Nat} (hf : Fits base 12288) (hc : okN c = true) (h0 : base ≤ at_) (h1 : at_ + c ≤ base + 12288) (i : Nat) (hi : i < c) : writeM base 12288 m at_ c v (at_ + i) = v / 256 ^ i % 256 := by
  have e : (okN c && hasZ base 12288 at_ c) = true := by
    unfold hasZ; rw [hc, Bool.true_and, decide_eq_true_eq]; omega
  unfold writeM; rw [if_pos e]
  exact wrN_at hi
theorem back_out {base : Int} {m : Int → Int} {at_ v : Int} {c : Nat} (y : Int) (h : y < at_ ∨ at_ + c ≤ y) : writeM base 12288 m at_ c v y = m y := by
  unfold writeM
  split
  · exact wrN_out h
  · rfl
theorem back_read {base : Int} {m : Int → Int} {at_ v : Int} {c : Nat} (hv : In64 v) (hf : Fits base 12288) (hc : okN c = true) (h0 : base ≤ at_) (h1 : at_ + c ≤ base + 12288) : readV base 12288 (writeM base 12288 m at_ c v) at_ c = (v % 256 ^ c, true) := by
  have e : (okN c && hasZ base 12288 at_ c) = true := by
    unfold hasZ; rw [hc, Bool.true_and, decide_eq_true_eq]; omega
  unfold readV writeM; rw [if_pos e, if_pos e]
  show (rdN (wrN m at_ v c) at_ c, true) = _
  rw [rd_wr at_ v c hv.1]

/-- What Bytes told of 12288 bytes, as a row of its own. -/
theorem row_of {w w' : World} {base : Int} {m : Int → Int} {r : Bool} {e : Ending} (h : BytesEnd w (bytesV base 12288 m base 12288) r e w') (hf : Fits base 12288) :
    Below w.heap.size w w' ∧ ∃ g c, e = .returned (.tuple #[.slice (some ⟨g, 0, none⟩) 12288 c, .bool r]) ∧ w.heap.size ≤ g ∧ Lays w' g ((bytesL m base 12288).map (Value.int .u8)) := by
  obtain ⟨hb, a, n, c, he, hown⟩ := h
  have hh : hasZ base 12288 base 12288 = true := by unfold hasZ; rw [decide_eq_true_eq]; omega
  have hv : bytesV base 12288 m base 12288 = bytesL m base 12288 := by unfold bytesV; rw [if_pos hh]; rfl
  rw [hv, bytesL_len] at hown
  rcases Lays.own hown with ⟨_, h0, _⟩ | ⟨g, cap, hs, hg, hl⟩
  · cases h0
  · injection hs with h1 h2 h3
    subst h1 h2 h3
    exact ⟨hb, g, c, he, hg, hl⟩
theorem row_cell {w : World} {g : Nat} {base : Int} {m : Int → Int} (h : Lays w g ((bytesL m base 12288).map (Value.int .u8))) {i : Nat} (hi : i < 12288) : w.cell? ⟨g, i, none⟩ = some (.int .u8 (m (base + i))) := by
  refine h.cell ?_
  rw [List.getElem?_map]
  unfold bytesL
  simp [hi]

/-- The halves of a number that was written. -/
theorem rd_low {m : Int → Int} (x v : Int) (c d : Nat) (hv : 0 ≤ v) (h : d ≤ c) : rdN (wrN m x v c) x d = v % 256 ^ d := by
  rw [← rd_wr (m := m) x v d hv]
  refine rdN_congr fun y h1 h2 => ?_
  obtain ⟨i, rfl⟩ : ∃ i : Nat, y = x + i := ⟨(y - x).toNat, by omega⟩
  rw [wrN_at (by omega), wrN_at (by omega)]
theorem rd_high {m : Int → Int} (x v : Int) (c d : Nat) (hv : 0 ≤ v) : rdN (wrN m x v (d + c)) (x + d) c = v / 256 ^ d % 256 ^ c := by
  rw [← rd_wr (m := m) (x + d) (v / 256 ^ d) c (Int.ediv_nonneg hv (Int.pow_nonneg (by decide)))]
  refine rdN_congr fun y h1 h2 => ?_
  obtain ⟨i, rfl⟩ : ∃ i : Nat, y = x + d + i := ⟨(y - (x + d)).toNat, by omega⟩
  rw [wrN_at (by omega), show x + (d : Int) + (i : Int) = x + ((d + i : Nat) : Int) by omega, wrN_at (by omega), Int.pow_add, Int.ediv_ediv_of_nonneg (Int.pow_nonneg (by decide))]
theorem back_half {base : Int} {m : Int → Int} {at_ v : Int} {c : Nat} (hv : In64 v) (hf : Fits base 12288) (hc : okN ((c + c : Nat) : Int) = true) (hd : okN c = true) (h0 : base ≤ at_) (h1 : at_ + c + c ≤ base + 12288) :
    readV base 12288 (writeM base 12288 m at_ ((c + c : Nat) : Int) v) at_ c = (v % 256 ^ c, true) ∧ readV base 12288 (writeM base 12288 m at_ ((c + c : Nat) : Int) v) (at_ + c) c = (v / 256 ^ c % 256 ^ c, true) := by
  have e : (okN ((c + c : Nat) : Int) && hasZ base 12288 at_ ((c + c : Nat) : Int)) = true := by
    unfold hasZ; rw [hc, Bool.true_and, decide_eq_true_eq]; omega
  have e1 : (okN c && hasZ base 12288 at_ c) = true := by
    unfold hasZ; rw [hd, Bool.true_and, decide_eq_true_eq]; omega
  have e2 : (okN c && hasZ base 12288 (at_ + c) c) = true := by
    unfold hasZ; rw [hd, Bool.true_and, decide_eq_true_eq]; omega
  unfold readV writeM; rw [if_pos e, if_pos e1, if_pos e2]
  refine ⟨?_, ?_⟩
  · show (rdN (wrN m at_ v (c + c)) at_ c, true) = _
    rw [rd_low at_ v (c + c) c hv.1 (by omega)]
  · show (rdN (wrN m at_ v (c + c)) (at_ + c) c, true) = _
    rw [rd_high at_ v c c hv.1]

end Go.Proofs.Ytgfnhledfhhkoaa

namespace Go.Proofs.Ytgfnhledfhhkoaa
open Go.RowKit
set_option linter.unusedVariables false

theorem rd_one (m : Int → Int) (x : Int) : rdN m x 1 = m x := by simp [rdN]
theorem one_read {base size : Int} {m : Int → Int} {x : Int} (h : hasZ base size x 1 = true) : readV base size m x 1 = (m x, true) := by
  have e : (okN 1 && hasZ base size x 1) = true := by rw [h]; decide
  unfold readV; rw [if_pos e]
  show (rdN m x 1, true) = _
  rw [rd_one]
theorem one_write {base size : Int} {m : Int → Int} {x v : Int} (h : hasZ base size x 1 = true) (h0 : 0 ≤ v) (h1 : v ≤ 255) (y : Int) : writeM base size m x 1 v y = if y = x then v else m y := by
  have e : (okN 1 && hasZ base size x 1) = true := by rw [h]; decide
  unfold writeM; rw [if_pos e]
  show wrN m x v 1 y = _
  simp only [wrN]
  split <;> omega

/-- A memory of the law's own and another one, apart. -/
structure Apart (w0 w : World) (b : Nat) (S : Nat → Prop) (b' : Nat) (S' : Nat → Prop) (m m' : Int → Int) : Prop where
  bel : Below w0.heap.size w0 w
  own : ∀ i, S i → w0.heap.size ≤ i
  own' : ∀ i, S' i → w0.heap.size ≤ i
  ne : ∀ i, S i → ¬ S' i
  mem : ProgMem w b S 8192 8192 m
  mem' : ProgMem w b' S' 8192 8192 m'
theorem Apart.later {w0 w w2 : World} {b : Nat} {S : Nat → Prop} {b' : Nat} {S' : Nat → Prop} {m m' : Int → Int} (h : Apart w0 w b S b' S' m m') (hb : Below w.heap.size w w2) : Apart w0 w2 b S b' S' m m' :=
  ⟨h.bel.trans (hb.mono h.bel.size), h.own, h.own', h.ne, h.mem.keeps (Only.of_below (fun _ => False) hb) (fun _ _ => id), h.mem'.keeps (Only.of_below (fun _ => False) hb) (fun _ _ => id)⟩
theorem Apart.turned {w0 w w2 : World} {b : Nat} {S : Nat → Prop} {b' : Nat} {S' : Nat → Prop} {m m' m2 : Int → Int} {r : Bool} {e : Ending} (h : Apart w0 w b S b' S' m m') (k : ProgEnd ProgMem w b' S' 8192 8192 m2 r e w2) : ∃ S2, Apart w0 w2 b S b' S2 m m2 := by
  obtain ⟨_, ho, S2, hS, hM⟩ := k
  refine ⟨S2, Below.thenOnly h.bel ho h.own' h.bel.size, h.own, fun i hi => ?_, fun i hi hj => ?_, h.mem.keeps ho h.ne, hM⟩
  · rcases hS i hi with h1 | h1
    · exact h.own' i h1
    · exact Nat.le_trans h.bel.size h1
  · rcases hS i hj with h1 | h1
    · exact h.ne i hi h1
    · have := ram.lt h.mem i hi; omega
/-- The twin of a memory of the law's own. -/
theorem Mine.apart {w0 w w2 : World} {b : Nat} {S : Nat → Prop} {b' : Nat} {S' : Nat → Prop} {m : Int → Int} (h : Mine ram w0 w b S 8192 8192 m) (hb : Below w.heap.size w w2) (hS' : ∀ i, S' i → w.heap.size ≤ i) (hM : ProgMem w2 b' S' 8192 8192 m) : Apart w0 w2 b S b' S' m m := by
  have h2 := h.later hb
  exact ⟨h2.bel, h2.own, fun i hi => Nat.le_trans h.bel.size (hS' i hi), fun i hi hj => by have := ram.lt h.mem i hi; have := hS' i hj; omega, h2.mem, hM⟩

/-- What Bytes told, read. -/
theorem read_of {w w' : World} {base size p : Int} {n : Nat} {m : Int → Int} {r : Bool} {e : Ending} (h : BytesEnd w (bytesV base size m p n) r e w') (hh : hasZ base size p n = true) (hm : Bytey m) :
    Below w.heap.size w w' ∧ ∃ g a c, e = .returned (.tuple #[.slice a n c, .bool r]) ∧ ReadsIn .u8 g w' (.slice a n c) (bytesL m p n) ∧ Bytes255 (bytesL m p n) := by
  obtain ⟨hb, a, k, c, he, hown⟩ := h
  have hv : bytesV base size m p n = bytesL m p n := by unfold bytesV; rw [if_pos hh]; rfl
  have h255 : Bytes255 (bytesL m p n) := by
    rw [← hv]; exact bytesV_255 hm p n
  rw [hv] at hown
  obtain ⟨g, a', c', hs, _, _, hr⟩ := writable h255 hown
  rw [bytesL_len] at hs
  injection hs with h1 h2 h3
  subst h1 h2 h3
  exact ⟨hb, g, a, c, he, hr, h255⟩
/-- 4096 noughts, or however many. -/
def zeroL (n : Nat) : List Int := (List.range n).map fun _ => 0
theorem zeroL_255 (n : Nat) : Bytes255 (zeroL n) := by
  intro i hi
  unfold zeroL at hi ⊢
  simp at hi
  simp [List.getD, hi]
/-- Where the strings of two rows of bytes are alike, the rows are. -/
theorem str_eq {xs ys : List Int} (hx : Bytes255 xs) (hy : Bytes255 ys) : ((strOfNums xs).toList == (strOfNums ys).toList) = decide (xs = ys) := by
  rw [Bool.eq_iff_iff, beq_iff_eq, decide_eq_true_eq, ByteArray.toList_eq, ByteArray.toList_eq]
  constructor
  · intro h
    refine strOf_inj hx hy ?_
    generalize strOfNums xs = s at h
    generalize strOfNums ys = u at h
    obtain ⟨⟨s⟩⟩ := s
    obtain ⟨⟨u⟩⟩ := u
    have h' : s = u := h
    rw [h']
  · intro h; rw [h]
/-- The pages of a memory of two. -/
theorem page_of {m : Int → Int} {ps : List Int} {p : Int} (hm : ∀ y, ¬ m y = 0 → 8192 ≤ y ∧ y < 8192 + 8192) (h : ∀ p, p ∈ ps ↔ ∃ y, ¬ m y = 0 ∧ pageOf y = p) (hp : p ∈ ps) :
    (p = 8192 ∨ p = 12288) ∧ ¬ bytesL m p 4096 = zeroL 4096 := by
  obtain ⟨y, hy, rfl⟩ := (h p).1 hp
  have hr := hm y hy
  have hp2 : pageOf y ≤ y ∧ y < pageOf y + 4096 ∧ (pageOf y = 8192 ∨ pageOf y = 12288) := by unfold pageOf; omega
  refine ⟨hp2.2.2, fun e => hy ?_⟩
  obtain ⟨i, hi, hyi⟩ : ∃ i : Nat, i < 4096 ∧ y = pageOf y + i := ⟨(y - pageOf y).toNat, by omega, by omega⟩
  have h1 := bytesL_get m (pageOf y) 4096 i hi
  rw [e] at h1
  have h2 : (zeroL 4096).getD i 0 = 0 := by unfold zeroL; simp [List.getD, hi]
  rw [h2] at h1
  rw [hyi]; exact h1.symm

theorem zeroL_len (n : Nat) : (zeroL n).length = n := by unfold zeroL; simp
/-- The making of a row of noughts, and its string. -/
theorem make_str (w : World) (n : Nat) (hn : n ≤ 100000) : ∃ g wz, (Instr.makeSlice 30 (.int .i64 (n : Int)) (.int .i64 (n : Int))).run Try.prog w = .ok (.slice (some ⟨g, 0, none⟩) n n) wz ∧ Below w.heap.size w wz ∧
    (convert 30 9 (.slice (some ⟨g, 0, none⟩) n n)).run Try.prog wz = .ok (.string (strOfNums (zeroL n))) wz ∧ ¬ g < w.heap.size ∧ g < wz.heap.size := by
  obtain ⟨i0, hi, hz0, hz1, hz2⟩ := info_parts info_u8
  have hmk : (Instr.makeSlice 30 (.int .i64 (n : Int)) (.int .i64 (n : Int))).run Try.prog w = .ok (.slice (some ⟨w.heap.size, 0, none⟩) n n) (w.alloc (.cells (uarr n fun _ => 0) 5)) := by
    have := run_make (P := Try.prog) w 30 5 i0 _ Try.underlying30 hi hz0 .i64 .i64 n n (by omega) (by omega) (by rw [hz2]; omega) (by omega)
    rw [hz1, made_u8] at this
    simpa using this
  refine ⟨w.heap.size, _, hmk, (Below.refl _ _).alloc (Nat.le_refl _) _, ?_⟩
  refine ⟨?_, Nat.lt_irrefl _, by simp⟩
  refine conv_reads (g := w.heap.size) ⟨_, _, by rw [zeroL_len], by rw [zeroL_len]; unfold maxLen; omega, .inr ⟨0, rfl, by simp, fun i hi => ?_⟩⟩
  rw [zeroL_len] at hi
  rw [Nat.zero_add, cell_of_row _ _ i _ _ _ (heap_alloc_new w _)]
  have : (zeroL n).getD i 0 = 0 := by unfold zeroL; simp [List.getD, hi]
  rw [this]
  simp [uarr, varr, hi]

end Go.Proofs.Ytgfnhledfhhkoaa

namespace Go.Proofs.Ytgfnhledfhhkoaa
section
variable {P : Program} {ops : Array Oper} {md : Region.Mode} {Q : Exit → Act → World → Prop} {S : World → Prop}
/-- 'wpAnyH_take' where the operation runs: its temporary d is written out, so that the state can be laid out behind it. -/
theorem takeD {i : Nat} {oi : Oper} (d : Option Tmp) {v : Value} {fuel : Nat} {listed : Array Bool} {a : Act} {w : World} (hi : ops[i]? = some oi) (hd : oi.dst = d)
    (hs : Region.noSelect ops = true) (hf : Region.free md ops listed i = true) (hr : (Region.ready md ops listed).contains i = true)
    (hQ : ∀ c a w, Q (.panic c) (a.put d v) w → Q (.panic c) a w) (hw : Region.wanted oi (yielded ops a.tmps) = true) (hS : S w) (hy : ∀ w, S w → (execOp a.eval oi).run P w = .ok (.value v) w)
    (h : wpAnyH P md ops Q S fuel (listed.setIfInBounds i true) (a.put d v) w) : wpAnyH P md ops Q S (fuel + 1) listed a w := by
  subst hd; exact wpAnyH_take hi hs hf hr hQ (.inl ⟨hw, hy⟩) hS h
/-- The same where its guard is false: it is not wanted, and yields nothing. -/
theorem skipD {i : Nat} {oi : Oper} (d : Option Tmp) {fuel : Nat} {listed : Array Bool} {a : Act} {w : World} (hi : ops[i]? = some oi) (hd : oi.dst = d)
    (hs : Region.noSelect ops = true) (hf : Region.free md ops listed i = true) (hr : (Region.ready md ops listed).contains i = true)
    (hQ : ∀ c a w, Q (.panic c) (a.put d undef) w → Q (.panic c) a w) (hw : Region.wanted oi (yielded ops a.tmps) = false) (hS : S w)
    (h : wpAnyH P md ops Q S fuel (listed.setIfInBounds i true) (a.put d undef) w) : wpAnyH P md ops Q S (fuel + 1) listed a w := by
  subst hd; exact wpAnyH_take hi hs hf hr hQ (.inr ⟨hw, rfl⟩) hS h
end

end Go.Proofs.Ytgfnhledfhhkoaa

namespace Go.Proofs.Ytgfnhledfhhkoaa
open Go.RowKit
set_option linter.unusedVariables false

set_option maxRecDepth 100000 in
set_option maxHeartbeats 8000000 in
theorem ramApart_walk (l : Value) (xs : List ActV) (a1 a2 : Int) (w : World) (i1 : In64 a1) (i2 : 0 ≤ a2 ∧ a2 ≤ 255) (hl : ActsIn w.heap.size w l xs)
    (hbl : ∀ i (hi : i < xs.length), xs[i].bs.length ≤ 140737488355328) :
    Calls Try.prog 7 #[l, .int .u64 a1, .int .u8 a2] w fun e w' => e = .returned (.bool true) ∧ Below w.heap.size w w' := by
  have HL := Lib.hid hl
  have HBL := Lib.hid hbl
  obtain ⟨al, cl, rfl, hll, _⟩ := hl
  have hll2 : xs.length ≤ 9223372036854775807 := by unfold maxLen at hll; omega
  have h10 := i1.1
  have h11 := i1.2
  have h20 := i2.1
  have h21 := i2.2
  have HF : Hid (Fits 8192 8192) := Lib.hid (by unfold Fits; omega)
  clear hbl hll i2
  go_enter Try.func7, Try.ntmps7
  go_wp2_with fail
  refine (ramAwake_any ram w).mono ?_
  rintro e w1 ⟨rfl, hb⟩
  have HB1 := Lib.hid hb
  clear hb
  go_wp2_with fail
  refine (great_any w.heap.size w1 _ xs (HL.out.below HB1.out) HBL.out).mono ?_
  rintro e w3 ⟨rfl, r, rfl, hr⟩
  cases r with
  | true =>
    go_wp2
    go_ret
    exact ⟨rfl, HB1.out⟩
  | false =>
  clear hr
  go_wp2_with fail
  refine (new_yes ram (base := 8192) (size := 8192) (by decide) (by unfold In64; omega) (by unfold In64; omega) w1).mono ?_
  rintro e w2 ⟨hb, b, S, rfl, hS, hM⟩
  have HM0 : Hid (Mine ram w w2 b S 8192 8192 fun _ => 0) := Lib.hid ⟨HB1.out.trans (hb.mono HB1.out.size), fun i hi => Nat.le_trans HB1.out.size (hS i hi), hM⟩
  clear hb hS hM
  go_wp2_with fail
  go_loopw [9] (fun i wr => ∃ k : Nat, k ≤ xs.length ∧ i = .int .i64 k ∧ ∃ S m, Mine ram w wr b S 8192 8192 m) (fun i _ => xs.length - (intOf i).toNat)
  case atStart => exact ⟨0, Nat.zero_le _, rfl, _, _, HM0.out⟩
  case round =>
    obtain ⟨k, hk, rfl, S1, m1, hM1⟩ := hrel
    have HM1 := Lib.hid hM1
    clear hM1 HM0
    by_cases hlt : k < xs.length
    · obtain ⟨_, _, hv, _, hx⟩ := HL.out.below HM1.out.bel
      injection hv with hv1 hv2 hv3
      subst hv1 hv3
      rcases hx with hx | ⟨bb, off, rfl, hbb, hc⟩
      · rw [hx] at hlt; simp at hlt
      have hA := hc k hlt
      obtain ⟨c0, c1, c2, c3, c4⟩ := act_cells hA
      have HA : Hid (In64 xs[k].a ∧ In63 xs[k].n ∧ In64 xs[k].v) := Lib.hid ⟨hA.2.2.2.2.2.2.2.2.1, hA.2.2.2.2.2.2.2.2.2⟩
      have hx0 := HA.out.1.1
      have hx1 := HA.out.1.2
      clear hA hc hv2
      generalize xs[k] = x at *
      obtain ⟨xd, xa, xn, xv, xb, xbs⟩ := x
      simp only at c0 c1 c2 c3 c4 hx0 hx1
      have hki : (k : Int) < (xs.length : Int) := by omega
      have hwr : Hid (In64 (8192 + xa % 8192)) := Lib.hid (by unfold In64; omega)
      go_wp2_with fail
      go_still_tail 18, (by kernel_rfl)
      change wpList _ _ _ _ _ wr.drew
      have HMd : Hid (Mine ram w wr.drew b S1 8192 8192 m1) := Lib.hid (HM1.out.later (Below.refl _ _).drew)
      have d1 : wr.drew.cell? ⟨bb, off + k * 5 + 1, none⟩ = some (.int .u64 xa) := c1
      have d2 : wr.drew.cell? ⟨bb, off + k * 5 + 2, none⟩ = some (.int .i64 xn) := c2
      have d3 : wr.drew.cell? ⟨bb, off + k * 5 + 3, none⟩ = some (.int .u64 xv) := c3
      clear c0 c1 c2 c3 c4 HM1
      generalize wr.drew = wd at *
      go_wp2_with fail
      refine (ram.write (8192 + xa % 8192) xn xv HMd.out.mem HF.out hwr.out HA.out.2.1 HA.out.2.2).mono ?_
      rintro e w5 hE
      obtain ⟨S2, hM2⟩ := HMd.out.turned hE
      obtain ⟨rfl, _⟩ := hE
      have HM2 := Lib.hid hM2
      clear hM2 HMd d1 d2 d3
      go_wp2
      exact ⟨⟨k + 1, by omega, by go_num, S2, _, HM2.out⟩, by simp [intOf]; omega⟩
    · obtain rfl : k = xs.length := by omega
      have hat1 : 0 ≤ a1 % 8192 := Int.emod_nonneg _ (by decide)
      have hat2 : a1 % 8192 < 8192 := Int.emod_lt_of_pos _ (by decide)
      have hat3 : 8192 ≤ 8192 + a1 % 8192 ∧ 8192 + a1 % 8192 < 16384 := by omega
      clear HL HB1
      go_wp2_with fail
      refine (ram.twin HM1.out.mem HF.out).mono ?_
      rintro e w6 ⟨hb6, b', S', rfl, hS', hM'⟩
      have HA6 := Lib.hid (HM1.out.apart hb6 hS' hM')
      clear hb6 hS' hM' HM1
      go_wp2_with fail
      refine (progSame_any HA6.out.mem HA6.out.mem').mono ?_
      rintro e w7 ⟨hb7, r, rfl, hr⟩
      obtain rfl : r = true := hr.2 ⟨rfl, rfl, fun _ => rfl⟩
      have HA7 := Lib.hid (HA6.out.later hb7)
      clear hb7 hr HA6 hat1 hat2
      go_wp2_with fail
      generalize 8192 + a1 % 8192 = at_ at *
      have HAT : Hid (In64 at_ ∧ hasZ 8192 8192 at_ 1 = true ∧ (okN 1 && hasZ 8192 8192 at_ 1) = true) := by
        have h : hasZ 8192 8192 at_ 1 = true := by unfold hasZ; rw [decide_eq_true_eq]; omega
        exact Lib.hid ⟨by unfold In64; omega, h, by rw [h]; decide⟩
      refine (ram.read at_ 1 HA7.out.mem HF.out HAT.out.1 (by unfold In63; omega)).mono ?_
      rintro e w8 ⟨rfl, hb8⟩
      rw [one_read HAT.out.2.1]
      have HA8 := Lib.hid (HA7.out.later hb8)
      clear hb8 HA7
      have hby := ram.bytey HA8.out.mem at_
      obtain ⟨q, hq⟩ : ∃ q, m1 at_ = q := ⟨_, rfl⟩
      have HQ := Lib.hid hq
      rw [hq] at hby ⊢
      clear hq
      have hq0 := hby.1
      have hq1 := hby.2
      clear hby
      go_wp2_with fail
      refine (ram.write at_ 1 a2 HA8.out.mem' HF.out HAT.out.1 (by unfold In63; omega) (by unfold In64; omega)).mono ?_
      rintro e w9 hE
      obtain ⟨S2, hA9⟩ := HA8.out.turned hE
      obtain ⟨rfl, _⟩ := hE
      rw [HAT.out.2.2]
      have HA9 := Lib.hid hA9
      clear hA9 HA8
      go_wp2_with fail
      refine (ram.read at_ 1 HA9.out.mem HF.out HAT.out.1 (by unfold In63; omega)).mono ?_
      rintro e w10 ⟨rfl, hb10⟩
      rw [one_read HAT.out.2.1, HQ.out]
      have HA10 := Lib.hid (HA9.out.later hb10)
      clear hb10 HA9
      have HBY := Lib.hid (show 0 ≤ a2 ∧ a2 ≤ 255 from ⟨h20, h21⟩)
      have HS1 : Hid ((∀ y, m1 y = writeM 8192 8192 m1 at_ 1 a2 y) ↔ q = a2) := Lib.hid ⟨fun h => by have := h at_; rw [one_write HAT.out.2.1 HBY.out.1 HBY.out.2, if_pos rfl, HQ.out] at this; exact this, fun h y => by
        rw [one_write HAT.out.2.1 HBY.out.1 HBY.out.2]
        split
        · rename_i e; rw [e, HQ.out, h]
        · rfl⟩
      have HS2 : Hid ((∀ y, writeM 8192 8192 m1 at_ 1 a2 y = m1 y) ↔ q = a2) := Lib.hid ⟨fun h => HS1.out.1 fun y => (h y).symm, fun h y => (HS1.out.2 h y).symm⟩
      have HS3 : Hid (∀ y, m1 y = writeM 8192 8192 (writeM 8192 8192 m1 at_ 1 a2) at_ 1 q y) := Lib.hid fun y => by
        rw [one_write HAT.out.2.1 hq0 hq1]
        split
        · rename_i e; rw [e, HQ.out]
        · rename_i e
          rw [one_write HAT.out.2.1 HBY.out.1 HBY.out.2, if_neg e]
      have hb : ∃ c : Bool, (q == a2) = c ∧ (c = true ↔ q = a2) := ⟨_, rfl, by simp⟩
      obtain ⟨c, hc, hc2⟩ := hb
      have HC := Lib.hid hc2
      clear hc2
      go_wp2_with fail
      refine (progSame_any HA10.out.mem HA10.out.mem').mono ?_
      rintro e w11 ⟨hb11, r, rfl, hr⟩
      obtain rfl : r = c := by rw [Bool.eq_iff_iff]; exact ⟨fun h => HC.out.2 (HS1.out.1 (hr.1 h).2.2), fun h => hr.2 ⟨rfl, rfl, HS1.out.2 (HC.out.1 h)⟩⟩
      have HA11 := Lib.hid (HA10.out.later hb11)
      clear hb11 hr HA10
      have hrr : (r != r) = false := by simp
      go_wp2_with fail
      refine (progSame_any HA11.out.mem' HA11.out.mem).mono ?_
      rintro e w12 ⟨hb12, r2, rfl, hr2⟩
      obtain rfl : r = r2 := by rw [Bool.eq_iff_iff]; exact ⟨fun h => hr2.2 ⟨rfl, rfl, HS2.out.2 (HC.out.1 h)⟩, fun h => HC.out.2 (HS2.out.1 (hr2.1 h).2.2)⟩
      have HA12 := Lib.hid (HA11.out.later hb12)
      clear hb12 hr2 HA11
      go_wp2_with fail
      refine (ram.write at_ 1 q HA12.out.mem' HF.out HAT.out.1 (by unfold In63; omega) (by unfold In64; omega)).mono ?_
      rintro e w13 hE
      obtain ⟨S3, hA13⟩ := HA12.out.turned hE
      obtain ⟨rfl, _⟩ := hE
      rw [HAT.out.2.2]
      have HA13 := Lib.hid hA13
      clear hA13 HA12
      go_wp2_with fail
      refine (progSame_any HA13.out.mem HA13.out.mem').mono ?_
      rintro e w14 ⟨hb14, r3, rfl, hr3⟩
      obtain rfl : r3 = true := hr3.2 ⟨rfl, rfl, HS3.out⟩
      have HM14 : Hid (Mine ram w w14 b S1 8192 8192 m1) := Lib.hid ⟨(HA13.out.later hb14).bel, HA13.out.own, (HA13.out.later hb14).mem⟩
      clear hb14 hr3 HA13 HS1 HS2 HS3 HC hrr hc
      go_wp2_with fail
      refine (ram.pages HM14.out.mem HF.out (by omega)).mono ?_
      rintro e w15 ⟨hb15, pa, pn, pc, ps, rfl, hown, hri, hps⟩
      obtain ⟨pa', pc', hv, hpm, hpr⟩ := ReadsL.own hown
      injection hv with hv1 hv2 hv3
      subst hv1 hv2 hv3
      have HM15 := Lib.hid (HM14.out.later hb15)
      have HPS := Lib.hid (show Rises ps ∧ ∀ p, p ∈ ps ↔ ∃ y, ¬ m1 y = 0 ∧ pageOf y = p from ⟨hri, hps⟩)
      have HPR := Lib.hid hpr
      have hpm2 : ps.length ≤ 9223372036854775807 := by unfold maxLen at hpm; omega
      clear hb15 hown hri hps hpr hpm HM14 HQ HAT HBY hq0 hq1
      go_wp2_with fail
      go_loopw [16] (fun i wr => ∃ k : Nat, k ≤ ps.length ∧ i = .int .i64 k ∧ Below w15.heap.size w15 wr) (fun i _ => ps.length - (intOf i).toNat)
      case atStart => exact ⟨0, Nat.zero_le _, rfl, Below.refl _ _⟩
      case round =>
        obtain ⟨k, hk, rfl, hbr⟩ := hrel
        by_cases hlt : k < ps.length
        · rcases HPR.out with hz | ⟨pb, poff, rfl, hpb, hpc⟩
          · rw [hz] at hlt; simp at hlt
          obtain ⟨p, hp⟩ : ∃ p, ps.getD k 0 = p := ⟨_, rfl⟩
          have HM16 := Lib.hid (HM15.out.later hbr)
          have HBR := Lib.hid hbr
          have HPC := Lib.hid hpc
          have hki : (k : Int) < (ps.length : Int) := by omega
          have hmem : p ∈ ps := by
            rw [← hp]; simp [List.getD, hlt]
          have hin : ∀ y, ¬ m1 y = 0 → 8192 ≤ y ∧ y < 8192 + 8192 := by obtain ⟨_, _, _, _, _, h, _⟩ := HM15.out.mem; exact h
          obtain ⟨hp8, hne⟩ := page_of hin HPS.out.2 hmem
          have hpm : (p % 4096 != 0) = false := by rcases hp8 with rfl | rfl <;> decide
          have htm : (p.tmod 4096 != 0) = false := by rcases hp8 with rfl | rfl <;> decide
          have hp0 : 0 ≤ p := by rcases hp8 with rfl | rfl <;> omega
          have hhz : Hid (hasZ 8192 8192 p (4096 : Nat) = true ∧ In64 p) := Lib.hid (by rcases hp8 with rfl | rfl <;> exact ⟨by decide, by unfold In64; omega⟩)
          have HNE := Lib.hid hne
          have hcell := (hbr.cell (p := ⟨pb, poff + k, none⟩) hpb).trans (hpc k hlt)
          rw [hp] at hcell
          clear hpc hin hmem hp8 hne hbr
          obtain ⟨L, hL⟩ : ∃ L : Nat, 4096 = L := ⟨_, rfl⟩
          by_cases hk0 : k = 0
          · subst hk0
            have c0 : wr.cell? ⟨pb, poff, none⟩ = some (.int .u64 p) := hcell
            clear hcell hp
            go_wp2_with fail
            refine (ram.bytes p (4096 : Nat) HM16.out.mem HF.out hhz.out.2 (by unfold In63; omega) (.inl (by omega))).mono ?_
            rintro e w17 hE
            obtain ⟨hb17, g, ga, gc, he, hgr, hg255⟩ := read_of hE hhz.out.1 (ram.bytey HM16.out.mem)
            rw [hhz.out.1, hL] at he
            subst he
            have hgr2 : ReadsIn .u8 g w17 (.slice ga L gc) (bytesL m1 p 4096) := by rw [← hL]; exact hgr
            have HGR := Lib.hid hgr2
            clear hgr2
            have HG2 := Lib.hid hg255
            have HB17 := Lib.hid (HBR.out.trans (hb17.mono HBR.out.size))
            have HK : Hid (∀ wx, Below w17.heap.size w17 wx → (convert 30 9 (.slice ga L gc)).run Try.prog wx = .ok (.string (strOfNums (bytesL m1 p 4096))) wx ∧ wx.cell? ⟨pb, poff, none⟩ = some (.int .u64 p)) := Lib.hid fun wx hx => ⟨conv_reads (HGR.out.below hx), (hx.cell (p := ⟨pb, poff, none⟩) (Nat.lt_of_lt_of_le (block_lt c0) hb17.size)).trans ((hb17.cell (p := ⟨pb, poff, none⟩) (block_lt c0)).trans c0)⟩
            obtain ⟨s, hs⟩ : ∃ s, strOfNums (bytesL m1 p 4096) = s := ⟨_, rfl⟩
            rw [hs] at HK
            clear hE hb17 hgr hg255 HM16 c0 HBR
            obtain ⟨gz, wz, hmk, hbz, hcz, hnew, hgz⟩ := make_str w17.drew 4096 (by omega)
            have HBZ : Hid (Below w17.heap.size w17 wz) := Lib.hid ((Below.refl _ _).drew.trans hbz)
            obtain ⟨z, hz⟩ : ∃ z, strOfNums (zeroL 4096) = z := ⟨_, rfl⟩
            rw [hz, hL] at hcz
            have hsz : (s.toList == z.toList) = false := by rw [← hs, ← hz, str_eq HG2.out (zeroL_255 4096)]; exact decide_eq_false HNE.out
            have hmk2 : (Instr.makeSlice 30 (.int .i64 4096) (.int .i64 4096)).run Try.prog w17.drew = .ok (.slice (some ⟨gz, 0, none⟩) L L) wz := by rw [← hL]; exact hmk
            have HL2 := Lib.hid hL
            clear hmk hbz hs hz hnew hgz hL
            go_wp2_with fail
            refine wp_region_held_drew (S := fun wx => Below w17.heap.size w17 wx) (by kernel_rfl) (Below.refl _ _).drew (fun hHeld0 => ?_)
            have HS := Lib.hid hHeld0
            clear hHeld0
            refine takeD (i := 0) (some 138) (v := ?_) rfl rfl (by kernel_rfl) (by kernel_rfl) (by kernel_rfl) (fun _ _ _ h => h) (by rfl) HS.out ?_ ?_
            rotate_left
            · intro wx hSx
              clear hSx
              go_simp
              try (with_reducible rfl)
            simp only [Act.put, List.setIfInBounds_toArray, List.set_cons_zero, List.set_cons_succ]
            refine takeD (i := 1) (some 139) (v := ?_) rfl rfl (by kernel_rfl) (by kernel_rfl) (by kernel_rfl) (fun _ _ _ h => h) (by rfl) HS.out ?_ ?_
            rotate_left
            · intro wx hSx
              clear hSx
              go_simp
              try (with_reducible rfl)
            simp only [Act.put, List.setIfInBounds_toArray, List.set_cons_zero, List.set_cons_succ]
            refine takeD (i := 2) (some 140) (v := ?_) rfl rfl (by kernel_rfl) (by kernel_rfl) (by kernel_rfl) (fun _ _ _ h => h) (by rfl) HS.out ?_ ?_
            rotate_left
            · intro wx hSx
              clear hSx
              go_simp
              try (with_reducible rfl)
            simp only [Act.put, List.setIfInBounds_toArray, List.set_cons_zero, List.set_cons_succ]
            refine takeD (i := 3) (some 141) (v := ?_) rfl rfl (by kernel_rfl) (by kernel_rfl) (by kernel_rfl) (fun _ _ _ h => h) (by rfl) HS.out ?_ ?_
            rotate_left
            · intro wx hSx
              clear hSx
              go_simp
              try (with_reducible rfl)
            simp only [Act.put, List.setIfInBounds_toArray, List.set_cons_zero, List.set_cons_succ]
            refine takeD (i := 4) (some 142) (v := ?_) rfl rfl (by kernel_rfl) (by kernel_rfl) (by kernel_rfl) (fun _ _ _ h => h) (by rfl) HS.out ?_ ?_
            rotate_left
            · intro wx hSx
              have g2 := (HK.out wx hSx).1
              clear hSx
              go_simp
              try (with_reducible rfl)
            simp only [Act.put, List.setIfInBounds_toArray, List.set_cons_zero, List.set_cons_succ]
            refine wpAnyH_ready (rs := [5]) (by kernel_rfl) (by simp) ?_
            refine AllReadyH.cons rfl (fun K hK => ?_) AllReadyH.nil
            go_simp
            refine hK.out _ _ ?_ (fun hHeld => ?_)
            · exact HBZ.out
            clear hK K
            try simp only [Act.put, List.setIfInBounds_toArray, List.set_cons_zero, List.set_cons_succ]
            replace HS := HBZ
            refine wpAnyH_ready (rs := [6]) (by kernel_rfl) (by simp) ?_
            refine AllReadyH.cons rfl (fun K hK => ?_) AllReadyH.nil
            go_simp
            refine hK.out _ _ ?_ (fun hHeld => ?_)
            · exact HBZ.out
            clear hK K
            try simp only [Act.put, List.setIfInBounds_toArray, List.set_cons_zero, List.set_cons_succ]
            refine takeD (i := 7) (some 145) (v := ?_) rfl rfl (by kernel_rfl) (by kernel_rfl) (by kernel_rfl) (fun _ _ _ h => h) (by rfl) HS.out ?_ ?_
            rotate_left
            · intro wx hSx
              clear hSx
              go_simp
              try (with_reducible rfl)
            simp only [Act.put, List.setIfInBounds_toArray, List.set_cons_zero, List.set_cons_succ]
            refine takeD (i := 8) (some 146) (v := ?_) rfl rfl (by kernel_rfl) (by kernel_rfl) (by kernel_rfl) (fun _ _ _ h => h) (by rfl) HS.out ?_ ?_
            rotate_left
            · intro wx hSx
              clear hSx
              go_simp
              try (with_reducible rfl)
            simp only [Act.put, List.setIfInBounds_toArray, List.set_cons_zero, List.set_cons_succ]
            refine takeD (i := 9) (some 147) (v := ?_) rfl rfl (by kernel_rfl) (by kernel_rfl) (by kernel_rfl) (fun _ _ _ h => h) (by rfl) HS.out ?_ ?_
            rotate_left
            · intro wx hSx
              clear hSx
              go_simp
              try (with_reducible rfl)
            simp only [Act.put, List.setIfInBounds_toArray, List.set_cons_zero, List.set_cons_succ]
            refine takeD (i := 10) (some 148) (v := ?_) rfl rfl (by kernel_rfl) (by kernel_rfl) (by kernel_rfl) (fun _ _ _ h => h) (by rfl) HS.out ?_ ?_
            rotate_left
            · intro wx hSx
              clear hSx
              go_simp
              try (with_reducible rfl)
            simp only [Act.put, List.setIfInBounds_toArray, List.set_cons_zero, List.set_cons_succ]
            refine takeD (i := 11) (some 149) (v := ?_) rfl rfl (by kernel_rfl) (by kernel_rfl) (by kernel_rfl) (fun _ _ _ h => h) (by rfl) HS.out ?_ ?_
            rotate_left
            · intro wx hSx
              clear hSx
              go_simp
              try (with_reducible rfl)
            simp only [Act.put, List.setIfInBounds_toArray, List.set_cons_zero, List.set_cons_succ]
            refine takeD (i := 12) (some 150) (v := ?_) rfl rfl (by kernel_rfl) (by kernel_rfl) (by kernel_rfl) (fun _ _ _ h => h) (by rfl) HS.out ?_ ?_
            rotate_left
            · intro wx hSx
              clear hSx
              go_simp
              try (with_reducible rfl)
            simp only [Act.put, List.setIfInBounds_toArray, List.set_cons_zero, List.set_cons_succ]
            refine skipD (i := 13) (some 151) rfl rfl (by kernel_rfl) (by kernel_rfl) (by kernel_rfl) (fun _ _ _ h => h) (by rfl) HS.out ?_
            simp only [Act.put, List.setIfInBounds_toArray, List.set_cons_zero, List.set_cons_succ]
            refine skipD (i := 14) (some 152) rfl rfl (by kernel_rfl) (by kernel_rfl) (by kernel_rfl) (fun _ _ _ h => h) (by rfl) HS.out ?_
            simp only [Act.put, List.setIfInBounds_toArray, List.set_cons_zero, List.set_cons_succ]
            refine skipD (i := 15) (some 153) rfl rfl (by kernel_rfl) (by kernel_rfl) (by kernel_rfl) (fun _ _ _ h => h) (by rfl) HS.out ?_
            simp only [Act.put, List.setIfInBounds_toArray, List.set_cons_zero, List.set_cons_succ]
            refine skipD (i := 16) (some 154) rfl rfl (by kernel_rfl) (by kernel_rfl) (by kernel_rfl) (fun _ _ _ h => h) (by rfl) HS.out ?_
            simp only [Act.put, List.setIfInBounds_toArray, List.set_cons_zero, List.set_cons_succ]
            refine skipD (i := 17) (some 155) rfl rfl (by kernel_rfl) (by kernel_rfl) (by kernel_rfl) (fun _ _ _ h => h) (by rfl) HS.out ?_
            simp only [Act.put, List.setIfInBounds_toArray, List.set_cons_zero, List.set_cons_succ]
            refine skipD (i := 18) (some 156) rfl rfl (by kernel_rfl) (by kernel_rfl) (by kernel_rfl) (fun _ _ _ h => h) (by rfl) HS.out ?_
            simp only [Act.put, List.setIfInBounds_toArray, List.set_cons_zero, List.set_cons_succ]
            refine skipD (i := 19) (some 157) rfl rfl (by kernel_rfl) (by kernel_rfl) (by kernel_rfl) (fun _ _ _ h => h) (by rfl) HS.out ?_
            simp only [Act.put, List.setIfInBounds_toArray, List.set_cons_zero, List.set_cons_succ]
            refine skipD (i := 20) (some 158) rfl rfl (by kernel_rfl) (by kernel_rfl) (by kernel_rfl) (fun _ _ _ h => h) (by rfl) HS.out ?_
            simp only [Act.put, List.setIfInBounds_toArray, List.set_cons_zero, List.set_cons_succ]
            refine skipD (i := 21) (some 159) rfl rfl (by kernel_rfl) (by kernel_rfl) (by kernel_rfl) (fun _ _ _ h => h) (by rfl) HS.out ?_
            simp only [Act.put, List.setIfInBounds_toArray, List.set_cons_zero, List.set_cons_succ]
            refine skipD (i := 22) (some 160) rfl rfl (by kernel_rfl) (by kernel_rfl) (by kernel_rfl) (fun _ _ _ h => h) (by rfl) HS.out ?_
            simp only [Act.put, List.setIfInBounds_toArray, List.set_cons_zero, List.set_cons_succ]
            refine takeD (i := 23) (some 161) (v := ?_) rfl rfl (by kernel_rfl) (by kernel_rfl) (by kernel_rfl) (fun _ _ _ h => h) (by rfl) HS.out ?_ ?_
            rotate_left
            · intro wx hSx
              clear hSx
              go_simp
              try (with_reducible rfl)
            simp only [Act.put, List.setIfInBounds_toArray, List.set_cons_zero, List.set_cons_succ]
            refine takeD (i := 24) (some 162) (v := ?_) rfl rfl (by kernel_rfl) (by kernel_rfl) (by kernel_rfl) (fun _ _ _ h => h) (by rfl) HS.out ?_ ?_
            rotate_left
            · intro wx hSx
              clear hSx
              go_simp
              try (with_reducible rfl)
            simp only [Act.put, List.setIfInBounds_toArray, List.set_cons_zero, List.set_cons_succ]
            refine takeD (i := 25) (some 163) (v := ?_) rfl rfl (by kernel_rfl) (by kernel_rfl) (by kernel_rfl) (fun _ _ _ h => h) (by rfl) HS.out ?_ ?_
            rotate_left
            · intro wx hSx
              clear hSx
              go_simp
              try (with_reducible rfl)
            simp only [Act.put, List.setIfInBounds_toArray, List.set_cons_zero, List.set_cons_succ]
            refine takeD (i := 26) (some 164) (v := ?_) rfl rfl (by kernel_rfl) (by kernel_rfl) (by kernel_rfl) (fun _ _ _ h => h) (by rfl) HS.out ?_ ?_
            rotate_left
            · intro wx hSx
              clear hSx
              go_simp
              try (with_reducible rfl)
            simp only [Act.put, List.setIfInBounds_toArray, List.set_cons_zero, List.set_cons_succ]
            refine takeD (i := 27) (some 165) (v := ?_) rfl rfl (by kernel_rfl) (by kernel_rfl) (by kernel_rfl) (fun _ _ _ h => h) (by rfl) HS.out ?_ ?_
            rotate_left
            · intro wx hSx
              clear hSx
              go_simp
              try (with_reducible rfl)
            simp only [Act.put, List.setIfInBounds_toArray, List.set_cons_zero, List.set_cons_succ]
            refine takeD (i := 28) (some 166) (v := ?_) rfl rfl (by kernel_rfl) (by kernel_rfl) (by kernel_rfl) (fun _ _ _ h => h) (by rfl) HS.out ?_ ?_
            rotate_left
            · intro wx hSx
              clear hSx
              go_simp
              try (with_reducible rfl)
            simp only [Act.put, List.setIfInBounds_toArray, List.set_cons_zero, List.set_cons_succ]
            refine takeD (i := 29) (some 167) (v := ?_) rfl rfl (by kernel_rfl) (by kernel_rfl) (by kernel_rfl) (fun _ _ _ h => h) (by rfl) HS.out ?_ ?_
            rotate_left
            · intro wx hSx
              have g1 := (HK.out wx hSx).2
              clear hSx
              go_simp
              try (with_reducible rfl)
            simp only [Act.put, List.setIfInBounds_toArray, List.set_cons_zero, List.set_cons_succ]
            refine takeD (i := 30) (some 168) (v := ?_) rfl rfl (by kernel_rfl) (by kernel_rfl) (by kernel_rfl) (fun _ _ _ h => h) (by rfl) HS.out ?_ ?_
            rotate_left
            · intro wx hSx
              clear hSx
              go_simp
              try (with_reducible rfl)
            simp only [Act.put, List.setIfInBounds_toArray, List.set_cons_zero, List.set_cons_succ]
            refine takeD (i := 31) (some 169) (v := ?_) rfl rfl (by kernel_rfl) (by kernel_rfl) (by kernel_rfl) (fun _ _ _ h => h) (by rfl) HS.out ?_ ?_
            rotate_left
            · intro wx hSx
              clear hSx
              go_simp
              try (with_reducible rfl)
            simp only [Act.put, List.setIfInBounds_toArray, List.set_cons_zero, List.set_cons_succ]
            refine takeD (i := 32) (some 170) (v := ?_) rfl rfl (by kernel_rfl) (by kernel_rfl) (by kernel_rfl) (fun _ _ _ h => h) (by rfl) HS.out ?_ ?_
            rotate_left
            · intro wx hSx
              clear hSx
              go_simp
              try (with_reducible rfl)
            simp only [Act.put, List.setIfInBounds_toArray, List.set_cons_zero, List.set_cons_succ]
            refine wpAnyH_done (by kernel_rfl) ?_ _
            go_wp2
            exact ⟨⟨0 + 1, by omega, by go_num, HB17.out.trans (HBZ.out.mono HB17.out.size)⟩, by simp [intOf]; omega⟩
          · obtain ⟨j, rfl⟩ : ∃ j, k = j + 1 := ⟨k - 1, by omega⟩
            have c0 : wr.cell? ⟨pb, poff + (j + 1), none⟩ = some (.int .u64 p) := hcell
            obtain ⟨q, hq⟩ : ∃ q, ps.getD j 0 = q := ⟨_, rfl⟩
            have c1 : wr.cell? ⟨pb, poff + j, none⟩ = some (.int .u64 q) := by
              have := (HBR.out.cell (p := ⟨pb, poff + j, none⟩) hpb).trans (HPC.out j (by omega))
              rw [hq] at this; exact this
            have hqp : decide (p ≤ q) = false := by
              have h1 := List.pairwise_iff_getElem.1 HPS.out.1 j (j + 1) (by omega) hlt (by omega)
              have h2 : ps[j]'(by omega) = q := by rw [← hq]; simp [List.getD, show j < ps.length by omega]
              have h3 : ps[j + 1]'hlt = p := by rw [← hp]; simp [List.getD, hlt]
              rw [h2, h3] at h1
              rw [decide_eq_false_iff_not]; omega
            have hj1 : (j : Int) + 1 < (ps.length : Int) := by omega
            have hj2 : (j : Int) < (ps.length : Int) := by omega
            have hj0 : (0 : Int) < (j : Int) + 1 := by omega
            have hj3 : (0 : Int) ≤ (j : Int) + 1 := by omega
            have hwj : IntKind.i64.wrap (j : Int) = j := IntWalk.i64_in _ (by omega)
            have hjw : (j : Int) + 1 ≤ 9223372036854775807 := by omega
            clear hcell hp hq hk0
            go_wp2_with fail
            refine (ram.bytes p (4096 : Nat) HM16.out.mem HF.out hhz.out.2 (by unfold In63; omega) (.inl (by omega))).mono ?_
            rintro e w17 hE
            obtain ⟨hb17, g, ga, gc, he, hgr, hg255⟩ := read_of hE hhz.out.1 (ram.bytey HM16.out.mem)
            rw [hhz.out.1, hL] at he
            subst he
            have hgr2 : ReadsIn .u8 g w17 (.slice ga L gc) (bytesL m1 p 4096) := by rw [← hL]; exact hgr
            have HGR := Lib.hid hgr2
            clear hgr2
            have HG2 := Lib.hid hg255
            have HB17 := Lib.hid (HBR.out.trans (hb17.mono HBR.out.size))
            have HK : Hid (∀ wx, Below w17.heap.size w17 wx → (convert 30 9 (.slice ga L gc)).run Try.prog wx = .ok (.string (strOfNums (bytesL m1 p 4096))) wx ∧ wx.cell? ⟨pb, poff + (j + 1), none⟩ = some (.int .u64 p) ∧ wx.cell? ⟨pb, poff + j, none⟩ = some (.int .u64 q)) := Lib.hid fun wx hx => ⟨conv_reads (HGR.out.below hx), (hx.cell (p := ⟨pb, poff + (j + 1), none⟩) (Nat.lt_of_lt_of_le (block_lt c0) hb17.size)).trans ((hb17.cell (p := ⟨pb, poff + (j + 1), none⟩) (block_lt c0)).trans c0), (hx.cell (p := ⟨pb, poff + j, none⟩) (Nat.lt_of_lt_of_le (block_lt c1) hb17.size)).trans ((hb17.cell (p := ⟨pb, poff + j, none⟩) (block_lt c1)).trans c1)⟩
            obtain ⟨s, hs⟩ : ∃ s, strOfNums (bytesL m1 p 4096) = s := ⟨_, rfl⟩
            rw [hs] at HK
            clear hE hb17 hgr hg255 HM16 c0 c1 HBR
            obtain ⟨gz, wz, hmk, hbz, hcz, hnew, hgz⟩ := make_str w17.drew 4096 (by omega)
            have HBZ : Hid (Below w17.heap.size w17 wz) := Lib.hid ((Below.refl _ _).drew.trans hbz)
            obtain ⟨z, hz⟩ : ∃ z, strOfNums (zeroL 4096) = z := ⟨_, rfl⟩
            rw [hz, hL] at hcz
            have hsz : (s.toList == z.toList) = false := by rw [← hs, ← hz, str_eq HG2.out (zeroL_255 4096)]; exact decide_eq_false HNE.out
            have hmk2 : (Instr.makeSlice 30 (.int .i64 4096) (.int .i64 4096)).run Try.prog w17.drew = .ok (.slice (some ⟨gz, 0, none⟩) L L) wz := by rw [← hL]; exact hmk
            have HL2 := Lib.hid hL
            clear hmk hbz hs hz hnew hgz hL
            go_wp2_with fail
            refine wp_region_held_drew (S := fun wx => Below w17.heap.size w17 wx) (by kernel_rfl) (Below.refl _ _).drew (fun hHeld0 => ?_)
            have HS := Lib.hid hHeld0
            clear hHeld0
            refine takeD (i := 0) (some 138) (v := ?_) rfl rfl (by kernel_rfl) (by kernel_rfl) (by kernel_rfl) (fun _ _ _ h => h) (by rfl) HS.out ?_ ?_
            rotate_left
            · intro wx hSx
              clear hSx
              go_simp
              try (with_reducible rfl)
            simp only [Act.put, List.setIfInBounds_toArray, List.set_cons_zero, List.set_cons_succ]
            refine takeD (i := 1) (some 139) (v := ?_) rfl rfl (by kernel_rfl) (by kernel_rfl) (by kernel_rfl) (fun _ _ _ h => h) (by rfl) HS.out ?_ ?_
            rotate_left
            · intro wx hSx
              clear hSx
              go_simp
              try (with_reducible rfl)
            simp only [Act.put, List.setIfInBounds_toArray, List.set_cons_zero, List.set_cons_succ]
            refine takeD (i := 2) (some 140) (v := ?_) rfl rfl (by kernel_rfl) (by kernel_rfl) (by kernel_rfl) (fun _ _ _ h => h) (by rfl) HS.out ?_ ?_
            rotate_left
            · intro wx hSx
              clear hSx
              go_simp
              try (with_reducible rfl)
            simp only [Act.put, List.setIfInBounds_toArray, List.set_cons_zero, List.set_cons_succ]
            refine takeD (i := 3) (some 141) (v := ?_) rfl rfl (by kernel_rfl) (by kernel_rfl) (by kernel_rfl) (fun _ _ _ h => h) (by rfl) HS.out ?_ ?_
            rotate_left
            · intro wx hSx
              clear hSx
              go_simp
              try (with_reducible rfl)
            simp only [Act.put, List.setIfInBounds_toArray, List.set_cons_zero, List.set_cons_succ]
            refine takeD (i := 4) (some 142) (v := ?_) rfl rfl (by kernel_rfl) (by kernel_rfl) (by kernel_rfl) (fun _ _ _ h => h) (by rfl) HS.out ?_ ?_
            rotate_left
            · intro wx hSx
              have g2 := (HK.out wx hSx).1
              clear hSx
              go_simp
              try (with_reducible rfl)
            simp only [Act.put, List.setIfInBounds_toArray, List.set_cons_zero, List.set_cons_succ]
            refine wpAnyH_ready (rs := [5]) (by kernel_rfl) (by simp) ?_
            refine AllReadyH.cons rfl (fun K hK => ?_) AllReadyH.nil
            go_simp
            refine hK.out _ _ ?_ (fun hHeld => ?_)
            · exact HBZ.out
            clear hK K
            try simp only [Act.put, List.setIfInBounds_toArray, List.set_cons_zero, List.set_cons_succ]
            replace HS := HBZ
            refine wpAnyH_ready (rs := [6]) (by kernel_rfl) (by simp) ?_
            refine AllReadyH.cons rfl (fun K hK => ?_) AllReadyH.nil
            go_simp
            refine hK.out _ _ ?_ (fun hHeld => ?_)
            · exact HBZ.out
            clear hK K
            try simp only [Act.put, List.setIfInBounds_toArray, List.set_cons_zero, List.set_cons_succ]
            refine takeD (i := 7) (some 145) (v := ?_) rfl rfl (by kernel_rfl) (by kernel_rfl) (by kernel_rfl) (fun _ _ _ h => h) (by rfl) HS.out ?_ ?_
            rotate_left
            · intro wx hSx
              clear hSx
              go_simp
              try (with_reducible rfl)
            simp only [Act.put, List.setIfInBounds_toArray, List.set_cons_zero, List.set_cons_succ]
            refine takeD (i := 8) (some 146) (v := ?_) rfl rfl (by kernel_rfl) (by kernel_rfl) (by kernel_rfl) (fun _ _ _ h => h) (by rfl) HS.out ?_ ?_
            rotate_left
            · intro wx hSx
              clear hSx
              go_simp
              try (with_reducible rfl)
            simp only [Act.put, List.setIfInBounds_toArray, List.set_cons_zero, List.set_cons_succ]
            refine takeD (i := 9) (some 147) (v := ?_) rfl rfl (by kernel_rfl) (by kernel_rfl) (by kernel_rfl) (fun _ _ _ h => h) (by rfl) HS.out ?_ ?_
            rotate_left
            · intro wx hSx
              clear hSx
              go_simp
              try (with_reducible rfl)
            simp only [Act.put, List.setIfInBounds_toArray, List.set_cons_zero, List.set_cons_succ]
            refine takeD (i := 10) (some 148) (v := ?_) rfl rfl (by kernel_rfl) (by kernel_rfl) (by kernel_rfl) (fun _ _ _ h => h) (by rfl) HS.out ?_ ?_
            rotate_left
            · intro wx hSx
              clear hSx
              go_simp
              try (with_reducible rfl)
            simp only [Act.put, List.setIfInBounds_toArray, List.set_cons_zero, List.set_cons_succ]
            refine takeD (i := 11) (some 149) (v := ?_) rfl rfl (by kernel_rfl) (by kernel_rfl) (by kernel_rfl) (fun _ _ _ h => h) (by rfl) HS.out ?_ ?_
            rotate_left
            · intro wx hSx
              clear hSx
              go_simp
              try (with_reducible rfl)
            simp only [Act.put, List.setIfInBounds_toArray, List.set_cons_zero, List.set_cons_succ]
            refine takeD (i := 12) (some 150) (v := ?_) rfl rfl (by kernel_rfl) (by kernel_rfl) (by kernel_rfl) (fun _ _ _ h => h) (by rfl) HS.out ?_ ?_
            rotate_left
            · intro wx hSx
              clear hSx
              go_simp
              try (with_reducible rfl)
            simp only [Act.put, List.setIfInBounds_toArray, List.set_cons_zero, List.set_cons_succ]
            refine takeD (i := 13) (some 151) (v := ?_) rfl rfl (by kernel_rfl) (by kernel_rfl) (by kernel_rfl) (fun _ _ _ h => h) (by rfl) HS.out ?_ ?_
            rotate_left
            · intro wx hSx
              clear hSx
              go_simp
              try (with_reducible rfl)
            simp only [Act.put, List.setIfInBounds_toArray, List.set_cons_zero, List.set_cons_succ]
            refine takeD (i := 14) (some 152) (v := ?_) rfl rfl (by kernel_rfl) (by kernel_rfl) (by kernel_rfl) (fun _ _ _ h => h) (by rfl) HS.out ?_ ?_
            rotate_left
            · intro wx hSx
              clear hSx
              go_simp
              try (with_reducible rfl)
            simp only [Act.put, List.setIfInBounds_toArray, List.set_cons_zero, List.set_cons_succ]
            refine takeD (i := 15) (some 153) (v := ?_) rfl rfl (by kernel_rfl) (by kernel_rfl) (by kernel_rfl) (fun _ _ _ h => h) (by rfl) HS.out ?_ ?_
            rotate_left
            · intro wx hSx
              clear hSx
              go_simp
              try (with_reducible rfl)
            simp only [Act.put, List.setIfInBounds_toArray, List.set_cons_zero, List.set_cons_succ]
            refine takeD (i := 16) (some 154) (v := ?_) rfl rfl (by kernel_rfl) (by kernel_rfl) (by kernel_rfl) (fun _ _ _ h => h) (by rfl) HS.out ?_ ?_
            rotate_left
            · intro wx hSx
              have g1 := (HK.out wx hSx).2.1
              clear hSx
              go_simp
              try (with_reducible rfl)
            simp only [Act.put, List.setIfInBounds_toArray, List.set_cons_zero, List.set_cons_succ]
            refine takeD (i := 17) (some 155) (v := ?_) rfl rfl (by kernel_rfl) (by kernel_rfl) (by kernel_rfl) (fun _ _ _ h => h) (by rfl) HS.out ?_ ?_
            rotate_left
            · intro wx hSx
              clear hSx
              go_simp
              try (with_reducible rfl)
            simp only [Act.put, List.setIfInBounds_toArray, List.set_cons_zero, List.set_cons_succ]
            refine takeD (i := 18) (some 156) (v := ?_) rfl rfl (by kernel_rfl) (by kernel_rfl) (by kernel_rfl) (fun _ _ _ h => h) (by rfl) HS.out ?_ ?_
            rotate_left
            · intro wx hSx
              clear hSx
              go_simp
              try (with_reducible rfl)
            simp only [Act.put, List.setIfInBounds_toArray, List.set_cons_zero, List.set_cons_succ]
            refine takeD (i := 19) (some 157) (v := ?_) rfl rfl (by kernel_rfl) (by kernel_rfl) (by kernel_rfl) (fun _ _ _ h => h) (by rfl) HS.out ?_ ?_
            rotate_left
            · intro wx hSx
              clear hSx
              go_simp
              try (with_reducible rfl)
            simp only [Act.put, List.setIfInBounds_toArray, List.set_cons_zero, List.set_cons_succ]
            refine takeD (i := 20) (some 158) (v := ?_) rfl rfl (by kernel_rfl) (by kernel_rfl) (by kernel_rfl) (fun _ _ _ h => h) (by rfl) HS.out ?_ ?_
            rotate_left
            · intro wx hSx
              clear hSx
              go_simp
              try (with_reducible rfl)
            simp only [Act.put, List.setIfInBounds_toArray, List.set_cons_zero, List.set_cons_succ]
            refine takeD (i := 21) (some 159) (v := ?_) rfl rfl (by kernel_rfl) (by kernel_rfl) (by kernel_rfl) (fun _ _ _ h => h) (by rfl) HS.out ?_ ?_
            rotate_left
            · intro wx hSx
              have g1 := (HK.out wx hSx).2.2
              clear hSx
              go_simp
              try (with_reducible rfl)
            simp only [Act.put, List.setIfInBounds_toArray, List.set_cons_zero, List.set_cons_succ]
            refine takeD (i := 22) (some 160) (v := ?_) rfl rfl (by kernel_rfl) (by kernel_rfl) (by kernel_rfl) (fun _ _ _ h => h) (by rfl) HS.out ?_ ?_
            rotate_left
            · intro wx hSx
              clear hSx
              go_simp
              try (with_reducible rfl)
            simp only [Act.put, List.setIfInBounds_toArray, List.set_cons_zero, List.set_cons_succ]
            refine takeD (i := 23) (some 161) (v := ?_) rfl rfl (by kernel_rfl) (by kernel_rfl) (by kernel_rfl) (fun _ _ _ h => h) (by rfl) HS.out ?_ ?_
            rotate_left
            · intro wx hSx
              clear hSx
              go_simp
              try (with_reducible rfl)
            simp only [Act.put, List.setIfInBounds_toArray, List.set_cons_zero, List.set_cons_succ]
            refine takeD (i := 24) (some 162) (v := ?_) rfl rfl (by kernel_rfl) (by kernel_rfl) (by kernel_rfl) (fun _ _ _ h => h) (by rfl) HS.out ?_ ?_
            rotate_left
            · intro wx hSx
              clear hSx
              go_simp
              try (with_reducible rfl)
            simp only [Act.put, List.setIfInBounds_toArray, List.set_cons_zero, List.set_cons_succ]
            refine takeD (i := 25) (some 163) (v := ?_) rfl rfl (by kernel_rfl) (by kernel_rfl) (by kernel_rfl) (fun _ _ _ h => h) (by rfl) HS.out ?_ ?_
            rotate_left
            · intro wx hSx
              clear hSx
              go_simp
              try (with_reducible rfl)
            simp only [Act.put, List.setIfInBounds_toArray, List.set_cons_zero, List.set_cons_succ]
            refine takeD (i := 26) (some 164) (v := ?_) rfl rfl (by kernel_rfl) (by kernel_rfl) (by kernel_rfl) (fun _ _ _ h => h) (by rfl) HS.out ?_ ?_
            rotate_left
            · intro wx hSx
              clear hSx
              go_simp
              try (with_reducible rfl)
            simp only [Act.put, List.setIfInBounds_toArray, List.set_cons_zero, List.set_cons_succ]
            refine takeD (i := 27) (some 165) (v := ?_) rfl rfl (by kernel_rfl) (by kernel_rfl) (by kernel_rfl) (fun _ _ _ h => h) (by rfl) HS.out ?_ ?_
            rotate_left
            · intro wx hSx
              clear hSx
              go_simp
              try (with_reducible rfl)
            simp only [Act.put, List.setIfInBounds_toArray, List.set_cons_zero, List.set_cons_succ]
            refine takeD (i := 28) (some 166) (v := ?_) rfl rfl (by kernel_rfl) (by kernel_rfl) (by kernel_rfl) (fun _ _ _ h => h) (by rfl) HS.out ?_ ?_
            rotate_left
            · intro wx hSx
              clear hSx
              go_simp
              try (with_reducible rfl)
            simp only [Act.put, List.setIfInBounds_toArray, List.set_cons_zero, List.set_cons_succ]
            refine takeD (i := 29) (some 167) (v := ?_) rfl rfl (by kernel_rfl) (by kernel_rfl) (by kernel_rfl) (fun _ _ _ h => h) (by rfl) HS.out ?_ ?_
            rotate_left
            · intro wx hSx
              have g1 := (HK.out wx hSx).2.1
              clear hSx
              go_simp
              try (with_reducible rfl)
            simp only [Act.put, List.setIfInBounds_toArray, List.set_cons_zero, List.set_cons_succ]
            refine takeD (i := 30) (some 168) (v := ?_) rfl rfl (by kernel_rfl) (by kernel_rfl) (by kernel_rfl) (fun _ _ _ h => h) (by rfl) HS.out ?_ ?_
            rotate_left
            · intro wx hSx
              clear hSx
              go_simp
              try (with_reducible rfl)
            simp only [Act.put, List.setIfInBounds_toArray, List.set_cons_zero, List.set_cons_succ]
            refine takeD (i := 31) (some 169) (v := ?_) rfl rfl (by kernel_rfl) (by kernel_rfl) (by kernel_rfl) (fun _ _ _ h => h) (by rfl) HS.out ?_ ?_
            rotate_left
            · intro wx hSx
              clear hSx
              go_simp
              try (with_reducible rfl)
            simp only [Act.put, List.setIfInBounds_toArray, List.set_cons_zero, List.set_cons_succ]
            refine takeD (i := 32) (some 170) (v := ?_) rfl rfl (by kernel_rfl) (by kernel_rfl) (by kernel_rfl) (fun _ _ _ h => h) (by rfl) HS.out ?_ ?_
            rotate_left
            · intro wx hSx
              clear hSx
              go_simp
              try (with_reducible rfl)
            simp only [Act.put, List.setIfInBounds_toArray, List.set_cons_zero, List.set_cons_succ]
            refine wpAnyH_done (by kernel_rfl) ?_ _
            go_wp2
            exact ⟨⟨j + 1 + 1, by omega, by go_num, HB17.out.trans (HBZ.out.mono HB17.out.size)⟩, by simp [intOf]; omega⟩
        · obtain rfl : k = ps.length := by omega
          have HM16 := Lib.hid (HM15.out.later hbr)
          have HBR := Lib.hid hbr
          clear hbr
          have hhz : Hid (hasZ 8192 8192 8192 (8192 : Nat) = true) := Lib.hid (by decide)
          go_wp2_with fail
          refine (ram.bytes 8192 (8192 : Nat) HM16.out.mem HF.out (by unfold In64; omega) (by unfold In63; omega) (.inl (by omega))).mono ?_
          rintro e w17 hE
          obtain ⟨hb17, g, ga, gc, he, hgr, hg255⟩ := read_of hE hhz.out (ram.bytey HM16.out.mem)
          obtain ⟨L, hL⟩ : ∃ L : Nat, 8192 = L := ⟨_, rfl⟩
          rw [hhz.out, hL] at he
          subst he
          have hgr2 : ReadsIn .u8 g w17 (.slice ga L gc) (bytesL m1 8192 8192) := by rw [← hL]; exact hgr
          have HGR := Lib.hid hgr2
          clear hgr2
          have HG2 := Lib.hid hg255
          have HB17 := Lib.hid (HM15.out.bel.trans ((HBR.out.trans (hb17.mono HBR.out.size)).mono HM15.out.bel.size))
          clear hE hb17 hgr hg255 HM16 HBR
          by_cases hps0 : ps = []
          · have hd0 : decide ((0 : Int) < (ps.length : Int)) = false := by rw [hps0]; rfl
            have hd1 : decide (0 < ps.length) = false := by rw [hps0]; rfl
            have HZ : Hid (bytesL m1 8192 8192 = zeroL 8192) := by
              refine Lib.hid (List.map_congr_left fun i _ => ?_)
              by_cases h : m1 (8192 + (i : Int)) = 0
              · exact h
              · have := (HPS.out.2 (pageOf (8192 + (i : Int)))).2 ⟨_, h, rfl⟩
                rw [hps0] at this; simp at this
            have HK : Hid (∀ wx, Below w17.heap.size w17 wx → (convert 30 9 (.slice ga L gc)).run Try.prog wx = .ok (.string (strOfNums (bytesL m1 8192 8192))) wx) := Lib.hid fun wx hx => conv_reads (HGR.out.below hx)
            obtain ⟨s, hs⟩ : ∃ s, strOfNums (bytesL m1 8192 8192) = s := ⟨_, rfl⟩
            rw [hs] at HK
            obtain ⟨gz, wz, hmk, hbz, hcz, hnew, hgz⟩ := make_str w17.drew 8192 (by omega)
            have HBZ : Hid (Below w17.heap.size w17 wz) := Lib.hid ((Below.refl _ _).drew.trans hbz)
            obtain ⟨z, hz⟩ : ∃ z, strOfNums (zeroL 8192) = z := ⟨_, rfl⟩
            rw [hz, hL] at hcz
            have hsz : (s.toList == z.toList) = true := by rw [← hs, ← hz, str_eq HG2.out (zeroL_255 8192)]; exact decide_eq_true HZ.out
            have hmk2 : (Instr.makeSlice 30 (.int .i64 8192) (.int .i64 8192)).run Try.prog w17.drew = .ok (.slice (some ⟨gz, 0, none⟩) L L) wz := by rw [← hL]; exact hmk
            have HL2 := Lib.hid hL
            clear hmk hbz hs hz hnew hgz hL hps0
            go_wp2_with fail
            refine wp_region_held_drew (S := fun wx => Below w17.heap.size w17 wx) (by kernel_rfl) (Below.refl _ _).drew (fun hHeld0 => ?_)
            have HS := Lib.hid hHeld0
            clear hHeld0
            refine takeD (i := 0) (some 176) (v := ?_) rfl rfl (by kernel_rfl) (by kernel_rfl) (by kernel_rfl) (fun _ _ _ h => h) (by rfl) HS.out ?_ ?_
            rotate_left
            · intro wx hSx
              clear hSx
              go_simp
              try (with_reducible rfl)
            simp only [Act.put, List.setIfInBounds_toArray, List.set_cons_zero, List.set_cons_succ]
            refine takeD (i := 1) (some 177) (v := ?_) rfl rfl (by kernel_rfl) (by kernel_rfl) (by kernel_rfl) (fun _ _ _ h => h) (by rfl) HS.out ?_ ?_
            rotate_left
            · intro wx hSx
              clear hSx
              go_simp
              try (with_reducible rfl)
            simp only [Act.put, List.setIfInBounds_toArray, List.set_cons_zero, List.set_cons_succ]
            refine takeD (i := 2) (some 178) (v := ?_) rfl rfl (by kernel_rfl) (by kernel_rfl) (by kernel_rfl) (fun _ _ _ h => h) (by rfl) HS.out ?_ ?_
            rotate_left
            · intro wx hSx
              clear hSx
              go_simp
              try (with_reducible rfl)
            simp only [Act.put, List.setIfInBounds_toArray, List.set_cons_zero, List.set_cons_succ]
            refine takeD (i := 3) (some 179) (v := ?_) rfl rfl (by kernel_rfl) (by kernel_rfl) (by kernel_rfl) (fun _ _ _ h => h) (by rfl) HS.out ?_ ?_
            rotate_left
            · intro wx hSx
              clear hSx
              go_simp
              try (with_reducible rfl)
            simp only [Act.put, List.setIfInBounds_toArray, List.set_cons_zero, List.set_cons_succ]
            refine takeD (i := 4) (some 180) (v := ?_) rfl rfl (by kernel_rfl) (by kernel_rfl) (by kernel_rfl) (fun _ _ _ h => h) (by rfl) HS.out ?_ ?_
            rotate_left
            · intro wx hSx
              clear hSx
              go_simp
              try (with_reducible rfl)
            simp only [Act.put, List.setIfInBounds_toArray, List.set_cons_zero, List.set_cons_succ]
            refine takeD (i := 5) (some 181) (v := ?_) rfl rfl (by kernel_rfl) (by kernel_rfl) (by kernel_rfl) (fun _ _ _ h => h) (by rfl) HS.out ?_ ?_
            rotate_left
            · intro wx hSx
              have g2 := HK.out wx hSx
              clear hSx
              go_simp
              try (with_reducible rfl)
            simp only [Act.put, List.setIfInBounds_toArray, List.set_cons_zero, List.set_cons_succ]
            refine wpAnyH_ready (rs := [6]) (by kernel_rfl) (by simp) ?_
            refine AllReadyH.cons rfl (fun K hK => ?_) AllReadyH.nil
            go_simp
            refine hK.out _ _ ?_ (fun hHeld => ?_)
            · exact HBZ.out
            clear hK K
            try simp only [Act.put, List.setIfInBounds_toArray, List.set_cons_zero, List.set_cons_succ]
            replace HS := HBZ
            refine wpAnyH_ready (rs := [7]) (by kernel_rfl) (by simp) ?_
            refine AllReadyH.cons rfl (fun K hK => ?_) AllReadyH.nil
            go_simp
            refine hK.out _ _ ?_ (fun hHeld => ?_)
            · exact HBZ.out
            clear hK K
            try simp only [Act.put, List.setIfInBounds_toArray, List.set_cons_zero, List.set_cons_succ]
            refine takeD (i := 8) (some 184) (v := ?_) rfl rfl (by kernel_rfl) (by kernel_rfl) (by kernel_rfl) (fun _ _ _ h => h) (by rfl) HS.out ?_ ?_
            rotate_left
            · intro wx hSx
              clear hSx
              go_simp
              try (with_reducible rfl)
            simp only [Act.put, List.setIfInBounds_toArray, List.set_cons_zero, List.set_cons_succ]
            refine takeD (i := 9) (some 185) (v := ?_) rfl rfl (by kernel_rfl) (by kernel_rfl) (by kernel_rfl) (fun _ _ _ h => h) (by rfl) HS.out ?_ ?_
            rotate_left
            · intro wx hSx
              clear hSx
              go_simp
              try (with_reducible rfl)
            simp only [Act.put, List.setIfInBounds_toArray, List.set_cons_zero, List.set_cons_succ]
            refine takeD (i := 10) (some 6) (v := ?_) rfl rfl (by kernel_rfl) (by kernel_rfl) (by kernel_rfl) (fun _ _ _ h => h) (by rfl) HS.out ?_ ?_
            rotate_left
            · intro wx hSx
              clear hSx
              go_simp
              try (with_reducible rfl)
            simp only [Act.put, List.setIfInBounds_toArray, List.set_cons_zero, List.set_cons_succ]
            refine wpAnyH_done (by kernel_rfl) ?_ _
            go_wp2
            go_ret
            exact ⟨rfl, HB17.out.trans (HBZ.out.mono HB17.out.size)⟩
          · have hd0 : decide ((0 : Int) < (ps.length : Int)) = true := by
              rw [decide_eq_true_eq]
              have := List.length_pos_iff.2 hps0
              omega
            have hd1 : decide (0 < ps.length) = true := by
              rw [decide_eq_true_eq]
              exact List.length_pos_iff.2 hps0
            clear hps0 hL
            go_wp2_with fail
            refine wp_region_held_drew (S := fun wx => Below w17.heap.size w17 wx) (by kernel_rfl) (Below.refl _ _).drew (fun hHeld0 => ?_)
            have HS := Lib.hid hHeld0
            clear hHeld0
            refine takeD (i := 0) (some 176) (v := ?_) rfl rfl (by kernel_rfl) (by kernel_rfl) (by kernel_rfl) (fun _ _ _ h => h) (by rfl) HS.out ?_ ?_
            rotate_left
            · intro wx hSx
              clear hSx
              go_simp
              try (with_reducible rfl)
            simp only [Act.put, List.setIfInBounds_toArray, List.set_cons_zero, List.set_cons_succ]
            refine takeD (i := 1) (some 177) (v := ?_) rfl rfl (by kernel_rfl) (by kernel_rfl) (by kernel_rfl) (fun _ _ _ h => h) (by rfl) HS.out ?_ ?_
            rotate_left
            · intro wx hSx
              clear hSx
              go_simp
              try (with_reducible rfl)
            simp only [Act.put, List.setIfInBounds_toArray, List.set_cons_zero, List.set_cons_succ]
            refine takeD (i := 2) (some 178) (v := ?_) rfl rfl (by kernel_rfl) (by kernel_rfl) (by kernel_rfl) (fun _ _ _ h => h) (by rfl) HS.out ?_ ?_
            rotate_left
            · intro wx hSx
              clear hSx
              go_simp
              try (with_reducible rfl)
            simp only [Act.put, List.setIfInBounds_toArray, List.set_cons_zero, List.set_cons_succ]
            refine takeD (i := 3) (some 179) (v := ?_) rfl rfl (by kernel_rfl) (by kernel_rfl) (by kernel_rfl) (fun _ _ _ h => h) (by rfl) HS.out ?_ ?_
            rotate_left
            · intro wx hSx
              clear hSx
              go_simp
              try (with_reducible rfl)
            simp only [Act.put, List.setIfInBounds_toArray, List.set_cons_zero, List.set_cons_succ]
            refine skipD (i := 4) (some 180) rfl rfl (by kernel_rfl) (by kernel_rfl) (by kernel_rfl) (fun _ _ _ h => h) (by rfl) HS.out ?_
            simp only [Act.put, List.setIfInBounds_toArray, List.set_cons_zero, List.set_cons_succ]
            refine skipD (i := 5) (some 181) rfl rfl (by kernel_rfl) (by kernel_rfl) (by kernel_rfl) (fun _ _ _ h => h) (by rfl) HS.out ?_
            simp only [Act.put, List.setIfInBounds_toArray, List.set_cons_zero, List.set_cons_succ]
            refine skipD (i := 6) (some 182) rfl rfl (by kernel_rfl) (by kernel_rfl) (by kernel_rfl) (fun _ _ _ h => h) (by rfl) HS.out ?_
            simp only [Act.put, List.setIfInBounds_toArray, List.set_cons_zero, List.set_cons_succ]
            refine skipD (i := 7) (some 183) rfl rfl (by kernel_rfl) (by kernel_rfl) (by kernel_rfl) (fun _ _ _ h => h) (by rfl) HS.out ?_
            simp only [Act.put, List.setIfInBounds_toArray, List.set_cons_zero, List.set_cons_succ]
            refine skipD (i := 8) (some 184) rfl rfl (by kernel_rfl) (by kernel_rfl) (by kernel_rfl) (fun _ _ _ h => h) (by rfl) HS.out ?_
            simp only [Act.put, List.setIfInBounds_toArray, List.set_cons_zero, List.set_cons_succ]
            refine takeD (i := 9) (some 185) (v := ?_) rfl rfl (by kernel_rfl) (by kernel_rfl) (by kernel_rfl) (fun _ _ _ h => h) (by rfl) HS.out ?_ ?_
            rotate_left
            · intro wx hSx
              clear hSx
              go_simp
              try (with_reducible rfl)
            simp only [Act.put, List.setIfInBounds_toArray, List.set_cons_zero, List.set_cons_succ]
            refine takeD (i := 10) (some 6) (v := ?_) rfl rfl (by kernel_rfl) (by kernel_rfl) (by kernel_rfl) (fun _ _ _ h => h) (by rfl) HS.out ?_ ?_
            rotate_left
            · intro wx hSx
              clear hSx
              go_simp
              try (with_reducible rfl)
            simp only [Act.put, List.setIfInBounds_toArray, List.set_cons_zero, List.set_cons_succ]
            refine wpAnyH_done (by kernel_rfl) ?_ _
            go_wp2
            go_ret
            exact ⟨rfl, HB17.out.trans ((Below.refl w17.heap.size w17).drew.mono HB17.out.size)⟩

end Go.Proofs.Ytgfnhledfhhkoaa
