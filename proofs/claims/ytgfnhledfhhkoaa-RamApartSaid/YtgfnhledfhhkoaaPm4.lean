/- The program's memory of layer 3: bytes written into one page. -/
import Derived.Test.YtgfnhledfhhkoaaPm3
import Derived.Test.YtgfnhledfhhkoaaLawsG
namespace Go.Proofs.Ytgfnhledfhhkoaa
open Go.RowKit Go.Maps
set_option linter.unusedVariables false

theorem zero4096 : Try.zeroCells76 = uarr 4096 fun _ => 0 := by kernel_rfl
theorem size4096 : (Try.prog.info? 76).map (·.size) = some 4096 := by kernel_rfl
theorem built4096 : Try.prog.built 76 [] = some (uarr 4096 fun _ => 0) := by kernel_rfl
theorem guard4096 : Try.prog.eqGuardType Try.prog.depth 76 = false := by kernel_rfl
theorem size_u8 : (Try.prog.info? 5).map (·.size) = some 1 := by kernel_rfl

theorem putF_eq (m : Int → Int) (x : Int) (xs : List Int) (y : Int) : putF m x xs y = if x ≤ y ∧ y < x + xs.length then xs.getD (y - x).toNat 0 else m y := by
  by_cases h : x ≤ y ∧ y < x + xs.length
  · rw [if_pos h]
    have := putF_at (m := m) (x := x) (xs := xs) (i := (y - x).toNat) (by omega)
    rw [show x + ((y - x).toNat : Int) = y by omega] at this
    exact this
  · rw [if_neg h]; exact putF_out (by omega)
theorem putF_bytey {m : Int → Int} (hm : Bytey m) (x : Int) {xs : List Int} (hx : Bytes255 xs) : Bytey (putF m x xs) := by
  intro y
  rw [putF_eq]
  split
  · exact hx _ (by omega)
  · exact hm y

section
variable {w w' : World} {b mb g : Nat} {S : Nat → Prop} {m m' : Int → Int} {pg : Int → Option Nat} {i : Int}

theorem PageAt.congr (h : PageAt w g m i) (e : ∀ k : Nat, k < 4096 → m (i * 4096 + k) = m' (i * 4096 + k)) : PageAt w g m' i := by
  unfold PageAt at *; rw [h, uarr_congr e]
theorem PgOk.wrote (h : PgOk w b mb S m pg) (e : pg i = some g) (o : Only (fun k => k = g) w w') (hp : PageAt w' g m' i) (hne : ∃ k : Nat, k < 4096 ∧ ¬ m' (i * 4096 + k) = 0)
    (hout : ∀ y, y < i * 4096 ∨ i * 4096 + 4096 ≤ y → m' y = m y) : PgOk w' b mb S m' pg := by
  obtain ⟨_, k2, k3, k4, _⟩ := h.page i g e
  refine ⟨h.map.keeps o (fun h => k4 h.symm), fun q g' e' => ?_, fun q e' k hk => ?_, h.inj, h.sb, h.smb, h.ne, fun k hk => Nat.lt_of_lt_of_le (h.lt k hk) o.size⟩
  · by_cases c : q = i
    · subst c
      rw [e] at e'; cases e'
      exact ⟨hp, k2, k3, k4, hne⟩
    · obtain ⟨j1, j2, j3, j4, k, hk, j5⟩ := h.page q g' e'
      have hg : g' ≠ g := fun hh => c (h.inj q i g (hh ▸ e') e)
      refine ⟨PageAt.congr (show PageAt w' g' m q from o.keeps hg j1) fun k hk => (hout _ (by omega)).symm, j2, j3, j4, k, hk, ?_⟩
      rw [hout _ (by omega)]; exact j5
  · have c : q ≠ i := fun hh => by rw [hh, e] at e'; cases e'
    rw [hout _ (by omega)]; exact h.gone q e' k hk
theorem PgOk.laid (h : PgOk w b mb S m pg) (e : pg i = none) (o : Only (fun k => k = mb) w w') (hg : w.heap.size ≤ g) (hmap : PgMap Try.prog 26 w' mb fun y => if y = i then some g else pg y) (hp : PageAt w' g m' i)
    (hne : ∃ k : Nat, k < 4096 ∧ ¬ m' (i * 4096 + k) = 0) (hout : ∀ y, y < i * 4096 ∨ i * 4096 + 4096 ≤ y → m' y = m y) : PgOk w' b mb (fun k => S k ∨ k = g) m' fun y => if y = i then some g else pg y := by
  have hgl : g < w'.heap.size := (Array.getElem?_eq_some_iff.1 hp).1
  have hb := h.lt b h.sb
  have hm := h.lt mb h.smb
  refine ⟨hmap, fun q g' e' => ?_, fun q e' k hk => ?_, fun q q' g' e1 e2 => ?_, .inl h.sb, .inl h.smb, h.ne, fun k hk => ?_⟩
  · by_cases c : q = i
    · subst c
      simp only [if_true] at e'
      cases e'
      exact ⟨hp, .inr rfl, by omega, by omega, hne⟩
    · simp only [if_neg c] at e'
      obtain ⟨j1, j2, j3, j4, k, hk, j5⟩ := h.page q g' e'
      refine ⟨PageAt.congr (show PageAt w' g' m q from o.keeps j4 j1) fun k hk => (hout _ (by omega)).symm, .inl j2, j3, j4, k, hk, ?_⟩
      rw [hout _ (by omega)]; exact j5
  · have c : q ≠ i := fun hh => by simp only [hh, if_true] at e'; cases e'
    simp only [if_neg c] at e'
    rw [hout _ (by omega)]; exact h.gone q e' k hk
  · by_cases c : q = i
    · by_cases d : q' = i
      · rw [c, d]
      · simp only [if_pos c] at e1
        simp only [if_neg d] at e2
        cases e1
        have := h.lt _ (h.page q' g e2).2.1; omega
    · by_cases d : q' = i
      · simp only [if_pos d] at e2
        simp only [if_neg c] at e1
        cases e2
        have := h.lt _ (h.page q g e1).2.1; omega
      · simp only [if_neg c] at e1
        simp only [if_neg d] at e2
        exact h.inj q q' g' e1 e2
  · rcases hk with hk | rfl
    · exact Nat.lt_of_lt_of_le (h.lt k hk) o.size
    · exact hgl
theorem PgOk.struck (h : PgOk w b mb S m pg) (e : pg i = some g) (o : Only (fun k => k = g ∨ k = mb) w w') (hmap : PgMap Try.prog 26 w' mb fun y => if y = i then none else pg y)
    (hz : ∀ k : Nat, k < 4096 → m' (i * 4096 + k) = 0) (hout : ∀ y, y < i * 4096 ∨ i * 4096 + 4096 ≤ y → m' y = m y) : PgOk w' b mb S m' fun y => if y = i then none else pg y := by
  refine ⟨hmap, fun q g' e' => ?_, fun q e' k hk => ?_, fun q q' g' e1 e2 => ?_, h.sb, h.smb, h.ne, fun k hk => Nat.lt_of_lt_of_le (h.lt k hk) o.size⟩
  · have c : q ≠ i := fun hh => by simp only [hh, if_true] at e'; cases e'
    simp only [if_neg c] at e'
    obtain ⟨j1, j2, j3, j4, k, hk, j5⟩ := h.page q g' e'
    have hg : g' ≠ g := fun hh => c (h.inj q i g (hh ▸ e') e)
    refine ⟨PageAt.congr (show PageAt w' g' m q from o.keeps (fun hh => by rcases hh with hh | hh; exact hg hh; exact j4 hh) j1) fun k hk => (hout _ (by omega)).symm, j2, j3, j4, k, hk, ?_⟩
    rw [hout _ (by omega)]; exact j5
  · by_cases c : q = i
    · subst c; exact hz k hk
    · simp only [if_neg c] at e'
      rw [hout _ (by omega)]; exact h.gone q e' k hk
  · have c : q ≠ i := fun hh => by simp only [hh, if_true] at e1; cases e1
    have d : q' ≠ i := fun hh => by simp only [hh, if_true] at e2; cases e2
    simp only [if_neg c] at e1
    simp only [if_neg d] at e2
    exact h.inj q q' g' e1 e2
theorem PgOk.congr (h : PgOk w b mb S m pg) (e : ∀ y, m y = m' y) : PgOk w b mb S m' pg := by
  obtain rfl : m = m' := funext e; exact h
end

/-- What a call leaves that tells nothing. -/
def StoreEnd (w : World) (b : Nat) (S : Nat → Prop) (base size : Int) (m : Int → Int) (e : Ending) (w' : World) : Prop :=
  (∃ u, e = .returned u) ∧ Only S w w' ∧ ∃ S', (∀ k, S' k → S k ∨ w.heap.size ≤ k) ∧ ProgMem w' b S' base size m

/-- What is asked of the bytes and their place. -/
structure InPage (base size : Int) (i : Int) (at_ : Nat) (xs : List Int) : Prop where
  lo : base ≤ i * 4096 + at_
  hi : i * 4096 + at_ + xs.length ≤ base + size
  page : at_ + xs.length ≤ 4096
  bytes : Bytes255 xs
  ne : xs ≠ []

theorem InPage.out {base size i : Int} {at_ : Nat} {xs : List Int} (h : InPage base size i at_ xs) (m : Int → Int) : ∀ y, y < i * 4096 ∨ i * 4096 + 4096 ≤ y → putF m (i * 4096 + at_) xs y = m y := by
  intro y hy
  have := h.page
  exact putF_out (by omega)
theorem InPage.over {base size i : Int} {at_ : Nat} {xs : List Int} (h : InPage base size i at_ xs) (m : Int → Int) (k : Nat) (hk : k < 4096) : overU (fun k => m (i * 4096 + k)) at_ xs k = putF m (i * 4096 + at_) xs (i * 4096 + k) := by
  rw [putF_eq]
  unfold overU
  by_cases c : at_ ≤ k ∧ k < at_ + xs.length
  · rw [if_pos c, if_pos (by omega)]; congr 1; omega
  · rw [if_neg c, if_neg (by omega)]
theorem InPage.support {base size i : Int} {at_ : Nat} {xs : List Int} (h : InPage base size i at_ xs) {m : Int → Int} (hm : ∀ y, ¬ m y = 0 → base ≤ y ∧ y < base + size) : ∀ y, ¬ putF m (i * 4096 + at_) xs y = 0 → base ≤ y ∧ y < base + size := by
  intro y hy
  have h1 := h.lo
  have h2 := h.hi
  rw [putF_eq] at hy
  split at hy
  · omega
  · exact hm y hy
/-- Bytes that are not all 0 leave no page of noughts. -/
theorem InPage.left {base size i : Int} {at_ : Nat} {xs : List Int} (h : InPage base size i at_ xs) (m : Int → Int) (hn : noughts xs = false) : ∃ k : Nat, k < 4096 ∧ ¬ putF m (i * 4096 + at_) xs (i * 4096 + k) = 0 := by
  have h1 := h.page
  have : ¬ ∀ j, j < xs.length → xs.getD j 0 = 0 := fun hh => by rw [noughts_iff.2 hh] at hn; cases hn
  obtain ⟨j, hj⟩ := Classical.not_forall.1 this
  obtain ⟨hj, hne⟩ := Classical.not_imp.1 hj
  refine ⟨at_ + j, by omega, ?_⟩
  have := putF_at (m := m) (x := i * 4096 + at_) hj
  rw [show i * 4096 + ((at_ + j : Nat) : Int) = i * 4096 + at_ + j by omega, this]
  exact hne

end Go.Proofs.Ytgfnhledfhhkoaa
