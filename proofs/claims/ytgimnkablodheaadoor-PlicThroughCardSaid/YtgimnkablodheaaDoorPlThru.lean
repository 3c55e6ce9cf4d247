/- Layer 5's laws, plain: states in which one source alone has anything. -/
import Derived.Test.YtgimnkablodheaaDoorPlAwake
namespace Go.Proofs.YtgimnkablodheaaDoor
open Go.RowKit
set_option linter.unusedVariables false

def tq (k c : Nat) (P : Int) (on : Bool) (F : Int) (u p b : Bool) : PS :=
  ⟨fun i => if i = k then P else 0, fun i => if i = k then u else false, fun i => if i = k then p else false, fun i => if i = k then b else false, fun s c' => if c' = c then (if s = k then on else false) else false, fun c' => if c' = c then F else 0⟩
theorem ps_ext {t u : PS} (h1 : ∀ i, t.prio i = u.prio i) (h2 : ∀ i, t.up i = u.up i) (h3 : ∀ i, t.pend i = u.pend i) (h4 : ∀ i, t.busy i = u.busy i) (h5 : ∀ i c, t.on i c = u.on i c) (h6 : ∀ c, t.floor c = u.floor c) : t = u := by
  obtain ⟨a1, a2, a3, a4, a5, a6⟩ := t
  obtain ⟨b1, b2, b3, b4, b5, b6⟩ := u
  obtain rfl : a1 = b1 := funext h1
  obtain rfl : a2 = b2 := funext h2
  obtain rfl : a3 = b3 := funext h3
  obtain rfl : a4 = b4 := funext h4
  obtain rfl : a5 = b5 := funext fun i => funext fun c => h5 i c
  obtain rfl : a6 = b6 := funext h6
  rfl
theorem tq_0 (k c : Nat) : p0 = tq k c 0 false 0 false false false := by
  apply ps_ext <;> intros <;> simp [p0, tq]
theorem upd_tq {α : Type} (k : Nat) (x z v : α) (i : Nat) : upd (fun i => if i = k then x else z) k v i = if i = k then v else z := by
  by_cases h : i = k
  · exact (if_pos h).trans (if_pos h).symm
  · exact (if_neg h).trans ((if_neg h).trans (if_neg h).symm)
theorem tq_prio (k c : Nat) (P P' : Int) (on : Bool) (F : Int) (u p b : Bool) : prioT (tq k c P on F u p b) k P' = tq k c P' on F u p b := by
  apply ps_ext
  · intro i; exact upd_tq k P 0 P' i
  all_goals intros; rfl
theorem tq_floor (k c : Nat) (P : Int) (on : Bool) (F F' : Int) (u p b : Bool) : floorT (tq k c P on F u p b) c F' = tq k c P on F' u p b := by
  apply ps_ext
  case h6 => intro i; exact upd_tq c F 0 F' i
  all_goals intros; rfl
theorem vbit_pow (k s : Nat) : vbit (2 ^ k) s = decide (s = k) := by
  unfold vbit
  rw [Bool.eq_iff_iff, beq_iff_eq, decide_eq_true_eq]
  by_cases h : s ≤ k
  · obtain ⟨d, rfl⟩ := Nat.exists_eq_add_of_le h
    rw [Int.pow_add, Int.mul_ediv_cancel_left _ (Int.ne_of_gt (Int.pow_pos (by decide)))]
    by_cases d0 : d = 0
    · subst d0; simp
    · obtain ⟨e, rfl⟩ : ∃ e, d = e + 1 := ⟨d - 1, by omega⟩
      rw [Int.pow_succ]
      constructor
      · intro h; omega
      · intro h; omega
  · rw [Int.ediv_eq_zero_of_lt (Int.le_of_lt (Int.pow_pos (by decide))) (by
      have h1 : k < s := by omega
      have h2 : (2 : Int) ^ (k + 1) ≤ 2 ^ s := two_pow_le h1
      rw [Int.pow_succ] at h2
      have h3 : (0 : Int) < 2 ^ k := Int.pow_pos (by decide)
      omega)]
    constructor
    · intro h; omega
    · intro h; omega
theorem tq_on (k c : Nat) (P : Int) (on : Bool) (F : Int) (u p b : Bool) (hk : 1 ≤ k) : onT (tq k c P on F u p b) c (onBits (2 ^ k)) = tq k c P true F u p b := by
  apply ps_ext
  case h5 =>
    intro i c'
    show (if c' = c then onBits (2 ^ k) i else if c' = c then (if i = k then on else false) else false) = if c' = c then (if i = k then true else false) else false
    by_cases h : c' = c
    · rw [if_pos h, if_pos h]
      unfold onBits
      rw [vbit_pow]
      by_cases e : i = k
      · rw [decide_eq_true e, if_pos e, decide_eq_true (by omega)]; rfl
      · rw [decide_eq_false e, if_neg e, Bool.and_false]
    · rw [if_neg h, if_neg h, if_neg h]
  all_goals intros; rfl
theorem tq_look (k c : Nat) (P : Int) (on : Bool) (F : Int) (u p b : Bool) : lookP (tq k c P on F u p b) k = tq k c P on F u (p || (u && !b)) b := by
  unfold lookP
  have e1 : (tq k c P on F u p b).up k = u := if_pos rfl
  have e2 : (tq k c P on F u p b).busy k = b := if_pos rfl
  rw [e1, e2]
  by_cases h : (u && !b) = true
  · rw [if_pos h, h, Bool.or_true]
    apply ps_ext
    case h3 => intro i; exact upd_tq k p false true i
    all_goals intros; rfl
  · rw [if_neg h, show (u && !b) = false by simpa using h, Bool.or_false]
theorem tq_level (k c : Nat) (P : Int) (on : Bool) (F : Int) (u p b u' : Bool) (hk : 1 ≤ k) (hk2 : k < 32) : levelP (tq k c P on F u p b) (k : Int) u' = tq k c P on F u' (p || (u' && !b)) b := by
  have hs : isS (k : Int) = true := by unfold isS; rw [decide_eq_true (by omega)]
  unfold levelP
  rw [hs, if_pos rfl, Int.toNat_natCast]
  have e : upP (tq k c P on F u p b) k u' = tq k c P on F u' p b := by
    apply ps_ext
    case h2 => intro i; exact upd_tq k u false u' i
    all_goals intros; rfl
  rw [e, tq_look]
theorem tq_claim (k c : Nat) (P : Int) (on : Bool) (F : Int) (u p b : Bool) (hk : 1 ≤ k) : claimed (tq k c P on F u p b) k = tq k c P on F u false true := by
  unfold claimed
  rw [if_neg (by omega)]
  apply ps_ext
  case h3 => intro i; exact upd_tq k p false false i
  case h4 => intro i; exact upd_tq k b false true i
  all_goals intros; rfl
theorem claimed_0 (t : PS) : claimed t 0 = t := if_pos rfl
theorem tq_done (k c : Nat) (P : Int) (F : Int) (u p : Bool) (hk : 1 ≤ k) (hk2 : k < 32) : doneT (tq k c P true F u p true) c k = tq k c P true F u (p || u) false := by
  unfold doneT mayB
  have e1 : (tq k c P true F u p true).on k c = true := by show (if c = c then (if k = k then true else false) else false) = true; rw [if_pos rfl, if_pos rfl]
  have e2 : (tq k c P true F u p true).busy k = true := if_pos rfl
  rw [e1, e2, decide_eq_true hk, decide_eq_true (by omega), if_pos (by rfl)]
  have e : idleP (tq k c P true F u p true) k = tq k c P true F u p false := by
    apply ps_ext
    case h4 => intro i; exact upd_tq k true false false i
    all_goals intros; rfl
  rw [e, tq_look]
  simp
theorem done_0 (t : PS) (c : Nat) : doneT t c 0 = t := by
  unfold doneT mayB
  rw [decide_eq_false (by omega)]; exact if_neg (by simp)
theorem done_off (k c c' : Nat) (P : Int) (on : Bool) (F : Int) (u p b : Bool) (x : Nat) (h : ¬ c' = c) : doneT (tq k c P on F u p b) c' x = tq k c P on F u p b := by
  unfold doneT mayB
  have e1 : (tq k c P on F u p b).on x c' = false := if_neg h
  rw [e1, Bool.and_false, Bool.false_and]; exact if_neg (by simp)
/-- The best, where one source alone may be it. -/
theorem tq_best (k c : Nat) (P : Int) (on : Bool) (F : Int) (u p b : Bool) (hk : 1 ≤ k) (hk2 : k < 32) (hc : c < 2) : bestC (tq k c P on F u p b) (c : Int) = if (p && on && decide (0 < P)) = true then k else 0 := by
  have hcand : ∀ i, candP (tq k c P on F u p b) c i = true → i = k ∧ (p && on && decide (0 < P)) = true := by
    intro i h
    unfold candP at h
    by_cases e : i = k
    · refine ⟨e, ?_⟩
      subst e
      have e1 : (tq i c P on F u p b).pend i = p := if_pos rfl
      have e2 : (tq i c P on F u p b).on i c = on := by show (if c = c then (if i = i then on else false) else false) = on; rw [if_pos rfl, if_pos rfl]
      have e3 : (tq i c P on F u p b).prio i = P := if_pos rfl
      rw [e1, e2, e3] at h; exact h
    · have e1 : (tq k c P on F u p b).pend i = false := if_neg e
      rw [e1] at h; simp at h
  unfold bestC
  rw [if_pos (by omega), Int.toNat_natCast]
  refine (bestTo_best _ c 31 (by omega)).uniq ?_
  by_cases h : (p && on && decide (0 < P)) = true
  · rw [if_pos h]
    refine ⟨fun h0 => by omega, fun _ => ⟨by omega, by omega, ?_, fun i _ _ hi => ?_⟩⟩
    · unfold candP
      have e1 : (tq k c P on F u p b).pend k = p := if_pos rfl
      have e2 : (tq k c P on F u p b).on k c = on := by show (if c = c then (if k = k then on else false) else false) = on; rw [if_pos rfl, if_pos rfl]
      have e3 : (tq k c P on F u p b).prio k = P := if_pos rfl
      rw [e1, e2, e3]; exact h
    · obtain ⟨rfl, _⟩ := hcand i hi
      exact .inr ⟨rfl, Nat.le_refl _⟩
  · rw [if_neg h]
    refine ⟨fun _ i _ _ => ?_, fun h0 => absurd rfl h0⟩
    cases hi : candP (tq k c P on F u p b) c i with
    | false => rfl
    | true => exact absurd (hcand i hi).2 h
theorem tq_best_off (k c c' : Nat) (P : Int) (on : Bool) (F : Int) (u p b : Bool) (h : ¬ c' = c) : bestC (tq k c P on F u p b) (c' : Int) = 0 := by
  unfold bestC
  split
  · rw [Int.toNat_natCast]
    refine (bestTo_best _ c' 31 (by omega)).uniq ⟨fun _ i _ _ => ?_, fun h0 => absurd rfl h0⟩
    unfold candP
    have e1 : (tq k c P on F u p b).on i c' = false := if_neg h
    rw [e1, Bool.and_false, Bool.false_and]
  · rfl
theorem tq_line (k c : Nat) (P : Int) (on : Bool) (F : Int) (u p b : Bool) (hk : 1 ≤ k) (hk2 : k < 32) (hc : c < 2) : lineT (tq k c P on F u p b) (c : Int) = (p && on && decide (0 < P) && decide (F < P)) := by
  unfold lineT lineC
  rw [tq_best k c P on F u p b hk hk2 hc, show isC (c : Int) = true by unfold isC; rw [decide_eq_true (by omega)], Bool.true_and, Int.toNat_natCast]
  have e3 : (tq k c P on F u p b).prio k = P := if_pos rfl
  have e4 : (tq k c P on F u p b).floor c = F := if_pos rfl
  by_cases h : (p && on && decide (0 < P)) = true
  · rw [if_pos h, e3, e4, h, decide_eq_true (show 0 < k by omega)]
  · rw [if_neg h, show (p && on && decide (0 < P)) = false by simpa using h, decide_eq_false (show ¬ 0 < 0 by omega)]; rfl
theorem tq_line_off (k c c' : Nat) (P : Int) (on : Bool) (F : Int) (u p b : Bool) (h : ¬ c' = c) : lineT (tq k c P on F u p b) (c' : Int) = false := by
  unfold lineT lineC
  rw [tq_best_off k c c' P on F u p b h, decide_eq_false (show ¬ 0 < 0 by omega), Bool.false_and, Bool.and_false]
theorem tq_up (k c : Nat) (P : Int) (on : Bool) (F : Int) (u p b : Bool) (hk : 1 ≤ k) (hk2 : k < 32) : upT (tq k c P on F u p b) (k : Int) = u := by
  unfold upT
  rw [show isS (k : Int) = true by unfold isS; rw [decide_eq_true (by omega)], Int.toNat_natCast, Bool.true_and]; exact if_pos rfl
theorem and_i64 (x : Int) (m : Nat) (hm : m ≤ 1023) : 0 ≤ bits .and .i64 x m ∧ bits .and .i64 x m ≤ m := by
  have h : bits .and .i64 x m = IntKind.i64.wrap ((V x &&& V m).toNat : Int) := rfl
  have hv : (V (m : Int)).toNat = m := by unfold V; rw [BitVec.ofInt_natCast, BitVec.toNat_ofNat]; omega
  have hle : (V x &&& V m).toNat ≤ m := by rw [BitVec.toNat_and, hv]; exact Nat.and_le_right
  rw [h, IntWalk.i64_in _ (by omega)]
  omega

end Go.Proofs.YtgimnkablodheaaDoor
