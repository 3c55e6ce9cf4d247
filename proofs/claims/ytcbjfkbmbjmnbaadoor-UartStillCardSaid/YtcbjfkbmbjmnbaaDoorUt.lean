/- Layer 6's laws: an act by both: what was told is written over; any act. -/
import Derived.Test.YtcbjfkbmbjmnbaaDoorUs
namespace Go.Proofs.YtcbjfkbmbjmnbaaDoor
open Go.RowKit
set_option linter.unusedVariables false

/-- A copy that is written over: n cells in block g. -/
def CopyG (w : World) (g n : Nat) : Prop := n = 0 ∨ ∃ cur t, w.heap[g]? = some (.cells cur t (0, 0)) ∧ ∀ j, j < n → ∃ z, cur[j]? = some (.int .u8 z)
theorem CopyG.at {w : World} {g n : Nat} (h : CopyG w g n) {k : Nat} (hk : k < n) : (∃ z, w.cell? ⟨g, k, none⟩ = some (.int .u8 z)) ∧ w.frozen? ⟨g, k, none⟩ = false := by
  rcases h with h | ⟨cur, t, h, hc⟩
  · omega
  · obtain ⟨z, hz⟩ := hc k hk
    exact ⟨⟨z, by rw [cell_of_row w g k _ _ _ h, hz]⟩, frozen_of_row w g k _ _ h⟩
theorem CopyG.set {w : World} {g n : Nat} (h : CopyG w g n) (k : Nat) (z : Int) : CopyG (w.setCell ⟨g, k, none⟩ (.int .u8 z)) g n := by
  rcases h with h | ⟨cur, t, h, hc⟩
  · exact .inl h
  · refine .inr ⟨cur.setIfInBounds k (.int .u8 z), t, heap_setCell_same w g k _ _ _ h, fun j hj => ?_⟩
    obtain ⟨y, hy⟩ := hc j hj
    by_cases e : k = j
    · subst e
      have hl : k < cur.size := (Array.getElem?_eq_some_iff.1 hy).1
      exact ⟨z, by simp [Array.getElem?_setIfInBounds, hl]⟩
    · exact ⟨y, by simp [Array.getElem?_setIfInBounds, e, hy]⟩
theorem copy_of {w : World} {a : Option Addr} {n c base : Nat} {xs : List Int} (h : w.ownsRow base 5 1 (.slice a n c) n (u8s xs)) (hn : n = xs.length) (hb : base ≤ w.heap.size) :
    ∃ g, base ≤ g ∧ CopyG w g n ∧ (n = 0 ∨ a = some ⟨g, 0, none⟩) := by
  rcases h.2 with ⟨_, h0⟩ | ⟨g, cap, cur, hv, hg, hh, h1, h2, h3, h4⟩
  · exact ⟨base, Nat.le_refl _, .inl h0, .inl h0⟩
  · injection hv with ha _ _
    refine ⟨g, hg, .inr ⟨cur, _, hh, fun j hj => ?_⟩, .inr ha⟩
    have h5 : (u8s xs)[j]? = some (.int .u8 (xs.getD j 0)) := u8s_at (by omega)
    rw [← h4, List.getElem?_take, if_pos (by omega)] at h5
    exact ⟨_, by simpa using h5⟩

set_option maxRecDepth 100000 in
set_option maxHeartbeats 4000000 in
theorem both_over (w : World) (a c : Nat) (Fa Fc T : Nat → Prop) (t : US) (x : ActV) (h : Duo w a c Fa Fc T t) (hdo : x.d = 4) :
    Calls Tryd.prog 21 #[.pointer (some ⟨a, 0, none⟩), .pointer (some ⟨c, 0, none⟩), actVal x] w (BothEnd w a c T t) := by
  have HX := Lib.hid (boxed w x)
  have H := Lib.hid h
  obtain ⟨xd, xa, xn, xv⟩ := x
  unfold actVal
  simp only at HX hdo ⊢
  clear h
  subst hdo
  go_enter Tryd.func21, Tryd.ntmps21
  go_wp2_with fail
  generalize w.alloc (.cells #[.int .i64 4, .int .u64 xa, .int .i64 xn, .int .u64 xv] 40) = w1 at *
  obtain ⟨bx, hbx⟩ : ∃ bx, w.heap.size = bx := ⟨_, rfl⟩
  (with_reducible refine (out_any w1 a Fa t (H.out.pa.below HX.out.bel)).mono ?_)
  rintro e w2 ⟨p, cp, rfl, k1, hr, how⟩
  have hlo := H.out.pa.ok.lo
  obtain ⟨g, hg, hC, hp⟩ := copy_of how rfl k1.size
  have HC := Lib.hid hC
  have HK := Lib.hid k1
  have HG := Lib.hid hg
  have hcap : t.out.length ≤ cp ∧ cp ≤ maxLen := by
    obtain ⟨a2, c2, hv2, q1, q2, _⟩ := hr.reads (by omega)
    injection hv2 with _ _ h3
    exact ⟨by omega, by omega⟩
  have HCAP := Lib.hid hcap
  have hn2 : t.out.length ≤ 9223372036854775807 := by omega
  have HN2 := Lib.hid hn2
  rw [hbx]
  clear hC k1 hr how hg hcap hn2 hlo
  generalize t.out.length = n at *
  have hn9 := HN2.out
  go_wp2
  go_loopw [14] (fun i wr => ∃ k : Nat, k ≤ n ∧ i = .int .i64 k ∧ CopyG wr g n ∧ Only (fun i => i = g) w2 wr) (fun i _ => n - (intOf i).toNat)
  case atStart => exact ⟨0, Nat.zero_le _, rfl, HC.out, Only.refl _ _⟩
  case round =>
    obtain ⟨k, hk, rfl, hC, hO⟩ := hrel
    replace HC := Lib.hid hC
    have HO := Lib.hid hO
    by_cases hlt : k < n
    · obtain ⟨⟨z, hz⟩, hf⟩ := hC.at hlt
      have hp2 := hp.resolve_left (by omega)
      subst hp2
      clear hC hO hp
      go_wp2
      exact ⟨⟨k + 1, by omega, by go_num, HC.out.set _ _, HO.out.setCell (.inl rfl) _⟩, by simp [intOf]; omega⟩
    · obtain rfl : k = n := by omega
      clear hC hO
      go_wp2
      go_ret
      exact ⟨rfl, DuoEnd.same H.out (Below.thenOnly (HX.out.bel.trans (HK.out.mono HX.out.bel.size)) HO.out (fun i hi => by have := HG.out; have := HX.out.lt; omega) (Nat.le_trans HX.out.bel.size HK.out.size))⟩

set_option maxRecDepth 100000 in
set_option maxHeartbeats 4000000 in
theorem both_none (w : World) (a c : Nat) (Fa Fc T : Nat → Prop) (t : US) (x : ActV) (h : Duo w a c Fa Fc T t) (h0 : ¬ x.d = 0) (h1 : ¬ x.d = 1) (h2 : ¬ x.d = 2) (h4 : ¬ x.d = 4) :
    Calls Tryd.prog 21 #[.pointer (some ⟨a, 0, none⟩), .pointer (some ⟨c, 0, none⟩), actVal x] w (BothEnd w a c T t) := by
  have HX := Lib.hid (boxed w x)
  have H := Lib.hid h
  obtain ⟨xd, xa, xn, xv⟩ := x
  unfold actVal
  simp only at HX h0 h1 h2 h4 ⊢
  have b0 : (xd == 0) = false := by simpa using h0
  have b1 : (xd == 1) = false := by simpa using h1
  have b2 : (xd == 2) = false := by simpa using h2
  have b4 : (xd == 4) = false := by simpa using h4
  clear h h0 h1 h2 h4
  go_enter Tryd.func21, Tryd.ntmps21
  go_wp2
  go_ret
  exact ⟨rfl, DuoEnd.same H.out HX.out.bel⟩

theorem both_any (w : World) (a c : Nat) (Fa Fc T : Nat → Prop) (t : US) (x : ActV) (h : Duo w a c Fa Fc T t) (r1 : In64 x.a) (r3 : In64 x.v) :
    Calls Tryd.prog 21 #[.pointer (some ⟨a, 0, none⟩), .pointer (some ⟨c, 0, none⟩), actVal x] w (BothEnd w a c T (actT t x)) := by
  unfold actT
  by_cases h0 : x.d = 0
  · rw [if_pos h0]; exact both_write w a c Fa Fc T t x h r1 r3 h0
  rw [if_neg h0]
  by_cases h1 : x.d = 1
  · rw [if_pos h1]; exact both_read w a c Fa Fc T t x h r1 r3 h1
  rw [if_neg h1]
  by_cases h2 : x.d = 2
  · rw [if_pos h2]; exact both_feed w a c Fa Fc T t x h r1 r3 h2
  rw [if_neg h2]
  by_cases h4 : x.d = 4
  · exact both_over w a c Fa Fc T t x h h4
  · exact both_none w a c Fa Fc T t x h h0 h1 h2 h4

end Go.Proofs.YtcbjfkbmbjmnbaaDoor
