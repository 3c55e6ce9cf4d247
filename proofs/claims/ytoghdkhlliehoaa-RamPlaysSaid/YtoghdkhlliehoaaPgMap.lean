/- A map from words to pointers, told as a function: which block stands at a word. Plain Lean over the model and its laws on maps; nothing of the program. -/
import Derived.Test.YtoghdkhlliehoaaOnly
import Derived.Test.YtoghdkhlliehoaaBv
import Derived.Maps.RangeWalk
import Derived.Maps.OwnSet
import Derived.Maps.Ext
namespace Go.Proofs.Ytoghdkhlliehoaa
open Go.RowKit Go.Maps
set_option linter.unusedVariables false
set_option maxRecDepth 100000

/-- How a pointer reads as a number: its block's, or -1. -/
def ptrElem (v : Value) : Option (DataW Unit × List MemPlace) :=
  match v with
  | .pointer none => some (.lit (.int .i64 (-1)), [])
  | .pointer (some ⟨g, 0, none⟩) => some (.lit (.int .i64 g), [])
  | _ => none
def encP : Option Nat → DataW Unit
  | none => .lit (.int .i64 (-1))
  | some g => .lit (.int .i64 g)
def ptrTo : Option Nat → Value
  | none => .pointer none
  | some g => .pointer (some ⟨g, 0, none⟩)
theorem ptrElem_to (o : Option Nat) : ptrElem (ptrTo o) = some (encP o, []) := by cases o <;> rfl
theorem ptrElem_inv {v : Value} {z : DataW Unit × List MemPlace} (h : ptrElem v = some z) : ∃ o, v = ptrTo o ∧ z = (encP o, []) := by
  unfold ptrElem at h
  split at h
  · cases h; exact ⟨none, rfl, rfl⟩
  · cases h; exact ⟨some _, rfl, rfl⟩
  · cases h
theorem encP_inj {o o' : Option Nat} (h : encP o = encP o') : o = o' := by
  cases o <;> cases o' <;> simp [encP] at h ⊢
  · omega
theorem wf_u64 {q : Int} (h : In64 q) : (Lit.int .u64 q).wf = true := by
  unfold In64 at h
  simp [Lit.wf, IntKind.min, IntKind.max, IntKind.signed, IntKind.bits]; omega
theorem wf_u64_in {q : Int} (h : (Lit.int .u64 q).wf = true) : In64 q := by
  unfold In64
  simp [Lit.wf, IntKind.min, IntKind.max, IntKind.signed, IntKind.bits] at h; omega

theorem nodup_le (N : Nat) (lo : Int) (l : List Int) (hn : l.Nodup) (h : ∀ x ∈ l, lo ≤ x ∧ x < lo + N) : l.length ≤ N := by
  induction N generalizing l with
  | zero =>
    cases l with
    | nil => simp
    | cons a l => have := h a (by simp); omega
  | succ N ih =>
    by_cases c : lo + N ∈ l
    · have h1 := List.length_erase_of_mem c
      have h2 := ih (l.erase (lo + N)) (hn.erase _) fun x hx => by
        have h3 := (hn.mem_erase_iff).1 hx
        have h4 := h x h3.2
        have := h3.1
        omega
      omega
    · have := ih l hn fun x hx => by
        have h4 := h x hx
        have : x ≠ lo + N := fun e => c (e ▸ hx)
        omega
      omega

/-- The types' facts. -/
structure PgT (P : Program) (t k e : TypeId) : Prop where
  hk : P.underlying k = some (.int .u64)
  ht : P.underlying t = some (.map k e)
  hz : ∀ w, (zeroValue e).run P w = .ok (.pointer none) w

/-- Block mb of the world is a map whose entry at q leads to block pg q. -/
def PgMap (P : Program) (k : TypeId) (w : World) (mb : Nat) (pg : Int → Option Nat) : Prop :=
  ∃ n D, w.ownsMap P k ptrElem mb n D ∧ (∀ q, D.atKey (.int .u64 q) (encP none) = encP (pg q)) ∧ ∀ kl, Maps.has D kl = true → ∃ q, In64 q ∧ kl = .int .u64 q ∧ pg q ≠ none

section
variable {P : Program} {t k e : TypeId} {w w' : World} {mb : Nat} {pg : Int → Option Nat}

theorem PgMap.lt (h : PgMap P k w mb pg) : mb < w.heap.size := by obtain ⟨n, D, h, _⟩ := h; exact h.lt
theorem PgMap.in64 (h : PgMap P k w mb pg) {q : Int} (hq : pg q ≠ none) : In64 q := by
  obtain ⟨n, D, h1, h2, h3⟩ := h
  by_cases c : Maps.has D (.int .u64 q) = true
  · obtain ⟨q', h4, e, _⟩ := h3 _ c; injection e with _ e; rw [e]; exact h4
  · have := Maps.atKey_of_not_has (H := Unit) (D := D) (by simpa using c) (encP none)
    rw [h2 q] at this
    exact absurd (encP_inj this) hq
theorem PgMap.keeps {S : Nat → Prop} (h : PgMap P k w mb pg) (o : Only S w w') (hs : ¬ S mb) : PgMap P k w' mb pg := by
  obtain ⟨n, D, h1, h2⟩ := h
  have hlt := h1.lt
  obtain ⟨es, clock, hb, r⟩ := h1
  exact ⟨n, D, ⟨es, clock, (o.block mb hlt hs).trans hb, r⟩, h2⟩
theorem PgMap.congr (h : PgMap P k w mb pg) {pg' : Int → Option Nat} (e : ∀ q, pg q = pg' q) : PgMap P k w mb pg' := by
  obtain rfl : pg = pg' := funext e; exact h
theorem PgMap.made (P : Program) (k : TypeId) (w : World) : PgMap P k (w.alloc (.map #[] 0)) w.heap.size fun _ => none :=
  ⟨0, _, World.ownsMap_made w P k ptrElem, fun q => rfl, fun kl h => by simp [Maps.has] at h⟩

theorem PgMap.look (h : PgMap P k w mb pg) (T : PgT P t k e) {q : Int} (hq : In64 q) :
    (Instr.lookup t (.map (some mb)) (.int .u64 q) false).run P w = .ok (ptrTo (pg q)) w := by
  obtain ⟨n, D, h1, h2, h3⟩ := h
  obtain ⟨v, ps, hr, hv⟩ := h1.lookup (int_keyed T.hk) T.ht (T.hz w) (ptrElem_to none) (keyOf_int_mk T.hk (wf_u64 hq))
  obtain ⟨o, rfl, ho⟩ := ptrElem_inv hv
  injection ho with ho _
  rw [h2 q] at ho
  rw [hr, encP_inj ho]

theorem PgMap.size_le (h : PgMap P k w mb pg) (hk : P.underlying k = some (.int .u64)) {lo : Int} {N : Nat} (hN : ∀ q, pg q ≠ none → lo ≤ q ∧ q < lo + N) : ∃ n D, n ≤ N ∧ Maps.size D = n ∧ w.ownsMap P k ptrElem mb n D ∧ (∀ q, D.atKey (.int .u64 q) (encP none) = encP (pg q)) ∧ ∀ kl, Maps.has D kl = true → ∃ q, In64 q ∧ kl = .int .u64 q ∧ pg q ≠ none := by
  obtain ⟨n, D, ⟨es, clock, hb, F, hs, hD⟩, h2, h3⟩ := h
  have hsz : Maps.size D = es.size := by rw [hD]; simp [Maps.size, Go.length_read]
  refine ⟨es.size, D, ?_, hsz, ⟨es, clock, hb, F, Nat.le_refl _, hD⟩, h2, h3⟩
  rw [← hsz]
  have ht := World.ownsMap.tidy (⟨es, clock, hb, F, hs, hD⟩ : w.ownsMap P k ptrElem mb n D) (int_keyed hk)
  obtain ⟨l, rfl, hp⟩ := ht
  have hkey : ∀ p ∈ l, ∃ q, p.1 = .int .u64 q ∧ pg q ≠ none := fun p hpm => by
    obtain ⟨q, _, e1, e2⟩ := h3 p.1 (by
      show (l.any fun r => r.1.sameKey p.1) = true
      rw [List.any_eq_true]
      refine ⟨p, hpm, ?_⟩
      have hent := World.ownsMap.entries (⟨es, clock, hb, F, hs, hD⟩ : w.ownsMap P k ptrElem mb n _) (int_keyed hk)
      obtain ⟨es2, e3, _, e4⟩ := hent
      injection e3 with e3
      subst e3
      exact WideAt.sameKey_self (e4 p hpm))
    exact ⟨q, e1, e2⟩
  let f : Lit × DataW Unit → Int := fun p => match p.1 with | .int _ q => q | _ => 0
  have hnd : (l.map f).Nodup := by
    rw [List.Nodup, List.pairwise_map]
    refine List.Pairwise.imp_of_mem ?_ hp
    intro a b ha hb hne he
    obtain ⟨q1, e1, _⟩ := hkey a ha
    obtain ⟨q2, e2, _⟩ := hkey b hb
    apply hne
    simp only [f, e1, e2] at he
    rw [e1, e2, he]
  have := nodup_le N lo (l.map f) hnd fun x hx => by
    obtain ⟨p, hp1, rfl⟩ := List.mem_map.1 hx
    obtain ⟨q, e1, e2⟩ := hkey p hp1
    simp only [f, e1]
    exact hN q e2
  simpa [Maps.size] using this

theorem PgMap.put (h : PgMap P k w mb pg) (T : PgT P t k e) {lo : Int} {N : Nat} (hN : ∀ q, pg q ≠ none → lo ≤ q ∧ q < lo + N) (hM : N < maxLen) {q : Int} (hq : In64 q) (g : Nat) :
    ∃ w', (Instr.mapUpdate t (.map (some mb)) (.int .u64 q) (.pointer (some ⟨g, 0, none⟩))).run P w = .ok () w' ∧ PgMap P k w' mb (fun y => if y = q then some g else pg y) ∧ w.mapTurned w' mb := by
  obtain ⟨n, D, hn, _, h1, h2, h3⟩ := h.size_le T.hk hN
  have K := int_keyed T.hk
  have hkey := keyOf_int_mk T.hk (wf_u64 hq)
  obtain ⟨w', hr, ho, hg⟩ := h1.store K T.ht (by omega) hkey (ptrElem_to (some g))
  refine ⟨w', hr, ⟨_, _, ho, fun y => ?_, fun kl hkl => ?_⟩, hg⟩
  · show _ = encP (if y = q then some g else pg y)
    by_cases e : y = q
    · subst e; rw [if_pos rfl]; exact Maps.atKey_put_same h1.isMap (K.key hkey) _ _
    · rw [if_neg e, Maps.atKey_put_other (by intro h; injection h with _ h; exact e h)]; exact h2 y
  · by_cases e : kl = .int .u64 q
    · subst e; exact ⟨q, hq, rfl, by simp⟩
    · rw [Maps.has_put_other e] at hkl
      obtain ⟨y, h4, rfl, h5⟩ := h3 kl hkl
      exact ⟨y, h4, rfl, by show (if y = q then some g else pg y) ≠ none; rw [if_neg (by intro h; exact e (by rw [h]))]; exact h5⟩
theorem PgMap.drop (h : PgMap P k w mb pg) (T : PgT P t k e) {q : Int} (hq : In64 q) (ty : TypeId) :
    ∃ w', (Builtin.delete_ #[t, k] ty #[.map (some mb), .int .u64 q]).run P w = .ok (.tuple #[]) w' ∧ PgMap P k w' mb (fun y => if y = q then none else pg y) ∧ w.mapTurned w' mb := by
  obtain ⟨n, D, h1, h2, h3⟩ := h
  have hkey := keyOf_int_mk T.hk (wf_u64 hq)
  obtain ⟨w', hr, ho, hg⟩ := h1.drop (int_keyed T.hk) T.ht hkey ty
  refine ⟨w', hr, ⟨_, _, ho, fun y => ?_, fun kl hkl => ?_⟩, hg⟩
  · show _ = encP (if y = q then none else pg y)
    by_cases e : y = q
    · subst e; rw [if_pos rfl]; exact Maps.atKey_del_same _
    · rw [if_neg e, Maps.atKey_del_other (by intro h; injection h with _ h; exact e h)]; exact h2 y
  · by_cases e : kl = .int .u64 q
    · subst e; rw [Maps.has_del_same] at hkl; cases hkl
    · rw [Maps.has_del_other e] at hkl
      obtain ⟨y, h4, rfl, h5⟩ := h3 kl hkl
      exact ⟨y, h4, rfl, by show (if y = q then none else pg y) ≠ none; rw [if_neg (by intro h; exact e (by rw [h]))]; exact h5⟩

theorem mapTurned_only {S : Nat → Prop} (h : w.mapTurned w' mb) (hs : S mb) : Only S w w' := by
  have g := h.grown
  exact ⟨g.os, g.tape, g.output, g.size, fun i hi hn => g.block i hi (by intro e; cases e; exact hn hs)⟩
theorem mapTurned_size (h : w.mapTurned w' mb) : w'.heap.size = w.heap.size := by
  obtain ⟨es, clock, es', clock', hb, rfl⟩ := h
  show (Array.setIfInBounds _ _ _).size = _
  simp
end

end Go.Proofs.Ytoghdkhlliehoaa
