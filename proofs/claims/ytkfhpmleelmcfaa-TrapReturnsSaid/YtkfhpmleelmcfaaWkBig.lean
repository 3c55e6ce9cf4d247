/- A great region that draws, whose operations but the last leave the world alone: held in order by a check of pairs, not of states. -/
import Derived.Test.YtkfhpmleelmcfaaWk2
namespace Go.Proofs.Ytkfhpmleelmcfaa
open Go.RowKit
set_option linter.unusedVariables false
set_option maxRecDepth 100000

section

variable {md : Region.Mode} {ops : Array Oper}

def backB (md : Region.Mode) : Nat → List Oper → Bool
  | _, [] => true
  | k, o :: t => o.after.all (fun e => !Region.binds md e || decide (e.on < k)) && backB md (k + 1) t

def pairB (md : Region.Mode) (ops : Array Oper) : Nat → List Oper → Bool
  | _, [] => true
  | i, o :: t => t.all (fun oj => oj.after.any (fun e => Region.binds md e && e.on == i) || o.apart ops oj) && pairB md ops (i + 1) t

theorem backB_at : ∀ (l : List Oper) (k : Nat), backB md k l = true → ∀ j o, l[j]? = some o → ∀ e ∈ o.after, Region.binds md e = true → e.on < k + j
  | [], _, _, j, o, h, _, _, _ => by simp at h
  | p :: t, k, hb, j, o, h, e, he, hbd => by
    simp only [backB, Bool.and_eq_true, Array.all_eq_true_iff_forall_mem] at hb
    cases j with
    | zero =>
      simp at h; subst h
      have := hb.1 e he
      simp [hbd] at this
      simpa using this
    | succ j =>
      have := backB_at t (k + 1) hb.2 j o (by simpa using h) e he hbd
      omega

theorem pairB_at : ∀ (l : List Oper) (k : Nat), pairB md ops k l = true → ∀ (i j : Nat) (oi oj : Oper), i < j → l[i]? = some oi → l[j]? = some oj → (oj.after.any (fun e => Region.binds md e && e.on == k + i) || oi.apart ops oj) = true
  | [], _, _, i, j, oi, oj, _, h, _ => by simp at h
  | p :: t, k, hb, i, j, oi, oj, hij, hi, hj => by
    simp only [pairB, Bool.and_eq_true, List.all_eq_true] at hb
    cases i with
    | zero =>
      simp at hi; subst hi
      cases j with
      | zero => omega
      | succ j => exact hb.1 oj (List.mem_of_getElem? (by simpa using hj))
    | succ i =>
      cases j with
      | zero => omega
      | succ j =>
        have := pairB_at t (k + 1) hb.2 i j oi oj (by omega) (by simpa using hi) (by simpa using hj)
        rw [show k + (i + 1) = k + 1 + i by omega]; exact this

/-- The first k of m. -/
def firstK (m k : Nat) : Array Bool := ((List.range m).map fun j => decide (j < k)).toArray

theorem firstK_get (m k j : Nat) (d : Bool) (h : j < m) : (firstK m k).getD j d = decide (j < k) := by unfold firstK; simp [h]

theorem firstK_zero (m : Nat) : Array.replicate m false = firstK m 0 := by
  unfold firstK
  apply Array.ext'
  simp [List.map_const']

theorem firstK_set (m k : Nat) (h : k < m) : (firstK m k).setIfInBounds k true = firstK m (k + 1) := by
  apply Array.ext
  · simp [firstK]
  · intro i h1 h2
    simp [firstK] at h1 h2 ⊢
    by_cases e : k = i
    · subst e; simp
    · simp [firstK, Array.getElem_setIfInBounds, e]
      omega

theorem lexHead_of (hb : backB md 0 ops.toList = true) (hp : pairB md ops 0 ops.toList = true) {g n : Nat} (hn : n ≤ ops.size) (hs : Region.seqB md ops g n (firstK ops.size n) = true) :
    ∀ f k, k + f = n → Region.lexHead md ops g f k (firstK ops.size k) = true
  | 0, k, e => by obtain rfl : k = n := by omega
                  exact hs
  | f + 1, k, e => by
    have hk : k < ops.size := by omega
    have hget : ∀ j : Nat, ops.toList[j]? = ops[j]? := fun j => by simp
    simp only [Region.lexHead, Bool.and_eq_true]
    refine ⟨⟨?_, ?_⟩, ?_⟩
    · simp only [List.contains_iff_mem]
      refine mem_ready.2 ⟨by rw [firstK_get _ _ _ _ hk]; simp, ops[k], Array.getElem?_eq_getElem hk, fun e he hbd => ?_⟩
      have := backB_at ops.toList 0 hb k ops[k] (by rw [hget]; exact Array.getElem?_eq_getElem hk) e he hbd
      rw [firstK_get _ _ _ _ (by omega)]
      exact decide_eq_true (by omega)
    · unfold Region.free
      rw [Array.getElem?_eq_getElem hk]
      simp only [List.all_eq_true, List.mem_range]
      intro j hj
      rcases Nat.lt_trichotomy j k with h | h | h
      · rw [firstK_get _ _ _ _ hj, decide_eq_true h]; simp
      · subst h; simp
      · rw [Array.getElem?_eq_getElem hj]
        have := pairB_at ops.toList 0 hp k j ops[k] ops[j] h (by rw [hget]; exact Array.getElem?_eq_getElem hk) (by rw [hget]; exact Array.getElem?_eq_getElem hj)
        rw [Nat.zero_add] at this
        show (j == k || (firstK ops.size k).getD j true || (ops[j].after.any (fun e => Region.binds md e && e.on == k) || ops[k].apart ops ops[j])) = true
        rw [this]; simp
    · rw [firstK_set _ _ hk]
      exact lexHead_of hb hp hn hs f (k + 1) (by omega)

theorem lexTail_of (N : Nat) (hsel : Region.noSelect ops = true) (hN : ops.size = N + 1) (hs : Region.sinkB md ops N = true) (hc : Region.chainB md ops N = true) (hb : backB md 0 ops.toList = true) (hp : pairB md ops 0 ops.toList = true) (hq : Region.seqB md ops 1 N (firstK (N + 1) N) = true) :
    Region.lexTailB md ops N = true := by
  simp only [Region.lexTailB, Bool.and_eq_true, decide_eq_true_eq]
  refine ⟨⟨⟨⟨hsel, by omega⟩, hs⟩, hc⟩, ?_⟩
  rw [firstK_zero, show ops.size - N = 1 by omega]
  exact lexHead_of hb hp (n := N) (by omega) (by rw [hN]; exact hq) N 0 (by omega)

end

end Go.Proofs.Ytkfhpmleelmcfaa
