/- Layer 5's law PlicOnce, plain: what is busy is not pending, what is up is pending or busy; bits of what is read. -/
import Derived.Test.YtgimnkablodheaaDoorPlAwake
namespace Go.Proofs.YtgimnkablodheaaDoor
open Go.RowKit
set_option linter.unusedVariables false

structure PS.live (t : PS) : Prop where
  not2 : ∀ s, t.pend s = true → t.busy s = false
  one : ∀ s, t.up s = true → t.pend s = true ∨ t.busy s = true
theorem p0_live : p0.live := ⟨fun s h => rfl, fun s h => absurd h (by simp [p0])⟩
/-- Behind a look at x of what held but at x. -/
theorem live_look {t : PS} {x : Nat} (h2 : ∀ s, s ≠ x → t.pend s = true → t.busy s = false) (h1 : ∀ s, s ≠ x → t.up s = true → t.pend s = true ∨ t.busy s = true) (hx : t.pend x = true → t.busy x = false) : (lookP t x).live := by
  unfold lookP
  by_cases h : (t.up x && !t.busy x) = true
  · rw [if_pos h]
    simp at h
    refine ⟨fun s hs => ?_, fun s hs => ?_⟩
    · by_cases e : s = x
      · subst e; exact h.2
      · exact h2 s e (by have : upd t.pend x true s = true := hs; rwa [upd_other _ _ e] at this)
    · by_cases e : s = x
      · subst e; exact .inl (upd_same _ _ _)
      · rcases h1 s e hs with k | k
        · exact .inl ((upd_other t.pend true e).trans k)
        · exact .inr k
  · rw [if_neg h]
    simp at h
    refine ⟨fun s hs => ?_, fun s hs => ?_⟩
    · by_cases e : s = x
      · subst e; exact hx hs
      · exact h2 s e hs
    · by_cases e : s = x
      · subst e; exact .inr (h hs)
      · exact h1 s e hs
theorem live_level {t : PS} (h : t.live) (s : Int) (u : Bool) : (levelP t s u).live := by
  unfold levelP
  split
  · refine live_look (fun i _ hi => h.not2 i hi) (fun i hi hu => h.one i ?_) (fun hp => h.not2 _ hp)
    have : upd t.up s.toNat u i = true := hu
    rwa [upd_other _ _ hi] at this
  · exact h
theorem live_claim {t : PS} (h : t.live) (k : Nat) : (claimed t k).live := by
  unfold claimed
  split
  · exact h
  · refine ⟨fun s hs => ?_, fun s hs => ?_⟩
    · have hs' : upd t.pend k false s = true := hs
      by_cases e : s = k
      · subst e; rw [upd_same] at hs'; cases hs'
      · rw [upd_other _ _ e] at hs'
        exact (upd_other t.busy true e).trans (h.not2 s hs')
    · by_cases e : s = k
      · subst e; exact .inr (upd_same _ _ _)
      · rcases h.one s hs with k1 | k1
        · exact .inl ((upd_other t.pend false e).trans k1)
        · exact .inr ((upd_other t.busy true e).trans k1)
theorem live_done {t : PS} (h : t.live) (c x : Nat) : (doneT t c x).live := by
  unfold doneT
  split
  · refine live_look (fun i hi hp => ?_) (fun i hi hu => ?_) (fun _ => upd_same _ _ _)
    · exact (upd_other t.busy false hi).trans (h.not2 i hp)
    · rcases h.one i hu with k | k
      · exact .inl k
      · exact .inr ((upd_other t.busy false hi).trans k)
  · exact h
theorem live_wr {t : PS} (h : t.live) (p : Nat × Nat) (v : Int) : (wrT t p v).live := by
  unfold wrT
  split
  · split
    · exact h
    · exact ⟨h.not2, h.one⟩
  · exact ⟨h.not2, h.one⟩
  · exact ⟨h.not2, h.one⟩
  · exact live_done h _ _
  · exact h
theorem live_rd {t : PS} (h : t.live) (p : Nat × Nat) : (rdT t p).live := by
  unfold rdT
  split
  · exact live_claim h _
  · exact h
/-- What is busy behind each. -/
theorem busy_level (t : PS) (s : Int) (u : Bool) : (levelP t s u).busy = t.busy := by
  unfold levelP lookP
  split
  · split <;> rfl
  · rfl
theorem look_busy (t : PS) (x : Nat) : (lookP t x).busy = t.busy := by
  unfold lookP; split <;> rfl
/-- What a completion leaves busy. -/
def idleF (f : Nat → Bool) (on : Nat → Bool) (x : Nat) : Nat → Bool := if 1 ≤ x ∧ x ≤ 31 ∧ on x = true then upd f x false else f
theorem busy_done (t : PS) (c x : Nat) : ∀ s, (doneT t c x).busy s = idleF t.busy (fun s => t.on s c) x s := by
  intro s
  unfold doneT mayB idleF
  by_cases h1 : 1 ≤ x
  · by_cases h2 : x ≤ 31
    · rw [decide_eq_true h1, decide_eq_true h2]
      cases ho : t.on x c with
      | false => rw [if_neg (by simp), if_neg (fun h => by have := h.2.2; simp only at this; rw [ho] at this; cases this)]
      | true =>
        cases hb : t.busy x with
        | true => rw [if_pos (by rfl), if_pos ⟨h1, h2, ho⟩, look_busy]; rfl
        | false =>
          rw [if_neg (by simp), if_pos ⟨h1, h2, ho⟩]
          unfold upd
          by_cases e : s = x
          · rw [if_pos e, e, hb]
          · rw [if_neg e]
    · rw [decide_eq_false h2, if_neg (by simp), if_neg (fun h => h2 h.2.1)]
  · rw [decide_eq_false h1, if_neg (by simp), if_neg (fun h => h1 h.1)]
theorem bit_of32 (f : Nat → Bool) {s : Nat} (hs : s < 32) : (bits32 f / 2 ^ s % 2 == 1) = f s := bits32_bit f hs
theorem bit_of32t (f : Nat → Bool) {s : Nat} (hs : s < 32) : ((bits32 f / 2 ^ s).tmod 2 == 1) = f s := by
  rw [Int.tmod_eq_emod_of_nonneg (Int.ediv_nonneg (bits32_bd f).1 (Int.le_of_lt (Int.pow_pos (by decide)))), bit_of32 f hs]
theorem even32 (f : Nat → Bool) (h0 : f 0 = false) : bits32 f % 2 = 0 := by
  have h := bits32_bit f (show 0 < 32 by omega)
  rw [h0, Int.pow_zero, Int.ediv_one, beq_eq_false_iff_ne] at h
  omega
theorem and64_32 (f g : Nat → Bool) : bits .and .u64 (bits32 f) (bits32 g) = bits32 (fun s => f s && g s) := by
  have hf := bits32_bd f
  have hg := bits32_bd g
  have hfg := bits32_bd (fun s => f s && g s)
  rw [bits_and]
  have e : V (bits32 f) &&& V (bits32 g) = V (bits32 fun s => f s && g s) := ext64 fun i hi => by
    rw [BitVec.getLsbD_and]
    have key : ∀ (h : Nat → Bool), (V (bits32 h)).getLsbD i = (decide (i < 32) && h i) := by
      intro h
      have hb := bits32_bd h
      by_cases c : i < 32
      · have k := bit32_is h c
        unfold bitB at k
        rw [decide_eq_true (by omega : (0 : Int) ≤ (i : Int)), Bool.true_and, Int.toNat_natCast] at k
        rw [k, decide_eq_true c, Bool.true_and]
      · have k := bit32_out h (i := (i : Int)) (by omega)
        unfold bitB at k
        rw [decide_eq_true (by omega : (0 : Int) ≤ (i : Int)), Bool.true_and, Int.toNat_natCast] at k
        rw [k, decide_eq_false c, Bool.false_and]
    rw [key, key, key]
    cases decide (i < 32) <;> simp
  rw [e, U_V (by unfold In64; omega)]

end Go.Proofs.YtgimnkablodheaaDoor
