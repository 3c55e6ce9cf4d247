/- The law RamPlays: one pair, its twins, its pages. -/
import Derived.Test.YtoghdkhlliehoaaDuo
import Derived.Test.YtoghdkhlliehoaaPk6
namespace Go.Proofs.Ytoghdkhlliehoaa
open Go.RowKit
set_option linter.unusedVariables false
set_option maxRecDepth 100000

theorem bel_drewN (B : Nat) (w : World) (n : Nat) : Below B w (w.drewN n) := ⟨rfl, rfl, rfl, Nat.le_refl _, fun _ _ => rfl⟩

/-- One pair of a law's own. -/
def One (w0 : World) (p q : Value) (N : Nat) (w : World) : Prop := Two w0 p q (.pointer none) (.pointer none) N 0 w
theorem Two.one {w0 w : World} {p q p' q' : Value} {n n' : Nat} (h : Two w0 p q p' q' n n' w) : One w0 p q n w := by
  obtain ⟨T, T', d, d', h1, h2, h3, h4, h5, h6⟩ := h
  exact ⟨T, fun _ => False, d, none, h1, h2, fun i h => h.elim, fun i _ h => h, h5, rfl, rfl⟩
theorem One.bel {w0 w : World} {p q : Value} {n : Nat} (h : One w0 p q n w) : Below w0.heap.size w0 w := by
  obtain ⟨_, _, _, _, h1, _⟩ := h; exact h1
theorem Two.bel {w0 w : World} {p q p' q' : Value} {n n' : Nat} (h : Two w0 p q p' q' n n' w) : Below w0.heap.size w0 w := by
  obtain ⟨_, _, _, _, h1, _⟩ := h; exact h1
theorem one_act (w0 w : World) (p q : Value) (n : Nat) (x : ActV) (h : One w0 p q n w) (hr : ReadsL .u8 w0.heap.size w x.b x.bs) (hbs : Bytes255 x.bs) (hl : x.bs.length ≤ 3000) (ia : In64 x.a) (inn : In63 x.n) (iv : In64 x.v) (hN : n < 800000) :
    Calls Try.prog 10 #[p, q, .agg (actCells x)] w fun e w' => e = .returned (.bool true) ∧ One w0 p q (n + 3008) w' :=
  two_act w0 w p q _ _ n 0 x h hr hbs hl ia inn iv hN

/-- How a pair begins: none, or two new ones. -/
theorem one_none (w0 w : World) (h : Below w0.heap.size w0 w) : One w0 (.pointer none) (.pointer none) 0 w :=
  ⟨fun _ => False, fun _ => False, none, none, h, fun i h => h.elim, fun i h => h.elim, fun i _ h => h, ⟨rfl, rfl⟩, rfl, rfl⟩
theorem one_new {w0 w w' : World} {p q : Value} {S G : Nat → Prop} {d : Mem} (h0 : Below w0.heap.size w0 w) (hb : Below w.heap.size w w') (hp : ProgD w p S d) (hS : ∀ i, S i → w0.heap.size ≤ i ∧ i < w.heap.size) (hq : RefD w' q G 0 d) (hG : ∀ i, G i → w.heap.size ≤ i ∧ i < w'.heap.size) : One w0 p q 0 w' := by
  have s0 := h0.size
  have s1 := hb.size
  refine ⟨fun i => S i ∨ G i, fun _ => False, d, none, h0.trans (hb.mono s0), ?_, fun i h => h.elim, fun i _ h => h, duo_of (hp.below hb) hq ?_, rfl, rfl⟩
  · rintro i (h | h)
    · have := hS i h; exact ⟨by omega, by omega⟩
    · have := hG i h; exact ⟨by omega, by omega⟩
  · intro i h h'
    have := hS i h; have := hG i h'; omega

/-- The program's is twinned, the document's not yet. -/
def Half (w0 : World) (p p' q : Value) (N : Nat) (w : World) : Prop :=
  ∃ (S S' G : Nat → Prop) (d : Mem), Below w0.heap.size w0 w ∧ (∀ i, S i ∨ S' i ∨ G i → w0.heap.size ≤ i ∧ i < w.heap.size) ∧ (∀ i, S i → ¬ S' i) ∧ (∀ i, S i → ¬ G i) ∧ (∀ i, S' i → ¬ G i) ∧ ProgD w p S d ∧ ProgD w p' S' d ∧ RefD w q G N d
theorem Half.bel {w0 w : World} {p p' q : Value} {N : Nat} (h : Half w0 p p' q N w) : Below w0.heap.size w0 w := by
  obtain ⟨_, _, _, _, h1, _⟩ := h; exact h1

theorem Half.below {w0 w w' : World} {p p' q : Value} {N : Nat} (h : Half w0 p p' q N w) (k : Below w.heap.size w w') : Half w0 p p' q N w' := by
  obtain ⟨S, S', G, d, h1, h2, h3, h4, h5, h6, h7, h8⟩ := h
  exact ⟨S, S', G, d, h1.trans (k.mono h1.size), fun i hi => ⟨(h2 i hi).1, Nat.lt_of_lt_of_le (h2 i hi).2 k.size⟩, h3, h4, h5, h6.below k, h7.below k, h8.below k⟩
theorem Half.drew {w0 w : World} {p p' q : Value} {N : Nat} (h : Half w0 p p' q N w) : Half w0 p p' q N w.drew := h.below (Below.refl _ _).drew

theorem one_twinP {w0 w : World} {p q : Value} {N : Nat} (h : One w0 p q N w) : Calls Try.prog 11 #[p] w fun e w' => ∃ p', e = .returned p' ∧ Half w0 p p' q N w' := by
  obtain ⟨T, T', d, d', h1, h2, h3, h4, h5, h6⟩ := h
  cases d with
  | none =>
    obtain ⟨rfl, rfl⟩ := h5
    refine (ram.twinNil w).mono ?_
    rintro e w' ⟨rfl, hb⟩
    exact ⟨_, rfl, fun _ => False, fun _ => False, fun _ => False, none, h1.trans (hb.mono h1.size), fun i h => by rcases h with h | h | h <;> exact h.elim, fun _ h => h.elim, fun _ h => h.elim, fun _ h => h.elim, rfl, rfl, rfl⟩
  | some d =>
    obtain ⟨base, size, m⟩ := d
    obtain ⟨b, S, b2, g2, rfl, rfl, ⟨k1, k2, k3, k4, k5, k6⟩, hS, hb, hg⟩ := h5
    refine (ram.twin k1 k6).mono ?_
    rintro e w' ⟨hbl, b', S', rfl, hS', hM'⟩
    have s1 := hbl.size
    have t1 := h2 _ hb
    have t2 := h2 _ hg
    refine ⟨_, rfl, S, S', fun i => i = b2 ∨ i = g2, some (base, size, m), h1.trans (hbl.mono h1.size), ?_, ?_, ?_, ?_, ⟨b, rfl, ram.keeps k1 (Only.of_below (fun _ => False) hbl) (fun _ _ => id), k6⟩, ⟨b', rfl, hM', k6⟩, ⟨b2, g2, rfl, k2.below hbl, .inl rfl, .inr rfl, by omega⟩⟩
    · rintro i (h | h | rfl | rfl)
      · have := h2 i (hS i h); exact ⟨by omega, by omega⟩
      · have := hS' i h; have := ram.lt hM' i h; have := h1.size; exact ⟨by omega, by omega⟩
      · exact ⟨by omega, by omega⟩
      · exact ⟨by omega, by omega⟩
    · intro i h h'
      have := h2 i (hS i h); have := hS' i h'; omega
    · rintro i h (rfl | rfl)
      · exact k3 h
      · exact k4 h
    · rintro i h (rfl | rfl)
      · have := hS' _ h; omega
      · have := hS' _ h; omega

theorem half_twinR {w0 w : World} {p p' q : Value} {N : Nat} (h : Half w0 p p' q N w) : Calls Try.prog 12 #[q] w fun e w' => ∃ q', e = .returned q' ∧ Two w0 p q' p' q N N w' := by
  obtain ⟨S, S', G, d, h1, h2, h3, h4, h5, h6, h7, h8⟩ := h
  cases d with
  | none =>
    obtain rfl := h6; obtain rfl := h7; obtain rfl := h8
    refine (refTwin_nil w).mono ?_
    rintro e w' ⟨rfl, rfl⟩
    exact ⟨_, rfl, fun _ => False, fun _ => False, none, none, h1, fun i h => h.elim, fun i h => h.elim, fun i _ h => h, ⟨rfl, rfl⟩, rfl, rfl⟩
  | some d =>
    obtain ⟨base, size, m⟩ := d
    obtain ⟨b, g, rfl, k1, k2, k3, k4⟩ := h8
    refine (refTwin_any w b g base size N m k1).mono ?_
    rintro e w' ⟨hbl, b', g', rfl, hb', hg', hM⟩
    have s0 := h1.size
    have s1 := hbl.size
    obtain ⟨g1, hg1, hlt, hM2⟩ := hM.norm
    have hl := hM2.lt
    have hge : w.heap.size ≤ g1 := by rcases hg1 with rfl | rfl <;> omega
    have hR' : RefD w' (.pointer (some ⟨b', 0, none⟩)) (fun i => w.heap.size ≤ i ∧ i < w'.heap.size) N (some (base, size, m)) := ⟨b', g1, rfl, hM2, ⟨hb', hl⟩, ⟨hge, hlt⟩, hlt⟩
    have hR : RefD w' (.pointer (some ⟨b, 0, none⟩)) G N (some (base, size, m)) := ⟨b, g, rfl, k1.below hbl, k2, k3, by omega⟩
    refine ⟨_, rfl, fun i => S i ∨ (w.heap.size ≤ i ∧ i < w'.heap.size), fun i => S' i ∨ G i, _, _, h1.trans (hbl.mono s0), ?_, ?_, ?_, duo_of (h6.below hbl) hR' ?_, duo_of (h7.below hbl) hR ?_⟩
    · rintro i (h | h)
      · have := h2 i (.inl h); exact ⟨by omega, by omega⟩
      · exact ⟨by omega, by omega⟩
    · rintro i (h | h)
      · have := h2 i (.inr (.inl h)); exact ⟨by omega, by omega⟩
      · have := h2 i (.inr (.inr h)); exact ⟨by omega, by omega⟩
    · rintro i (h | h) (h' | h')
      · exact h3 i h h'
      · exact h4 i h h'
      · have := h2 i (.inr (.inl h')); omega
      · have := h2 i (.inr (.inr h')); omega
    · intro i h h'
      have := h2 i (.inl h); omega
    · exact fun i h h' => h5 i h h'

/-- The old one and the document's twin play a write: the twin and the document's own stay a pair. -/
theorem old_act (w0 w : World) (p p' q q' : Value) (n : Nat) (a v : Int) (h : Two w0 p q' p' q n n w) (ia : In64 a) (iv : In64 v) (hN : n < 800000) :
    Calls Try.prog 10 #[p, q', .agg #[.int .i64 0, .int .u64 a, .int .i64 8, .int .u64 v, .slice none 0 0]] w fun e w' => e = .returned (.bool true) ∧ One w0 p' q n w' := by
  refine (two_act w0 w p q' p' q n n ⟨0, a, 8, v, .slice none 0 0, []⟩ h ⟨none, 0, rfl, Nat.zero_le _, .inl rfl⟩ (fun i hi => by simp at hi) (by simp) ia (by show In63 8; unfold In63; omega) iv hN).mono ?_
  rintro e w' ⟨he, hT⟩
  exact ⟨he, hT.swap.one⟩

/-- Which pages there are. -/
def PsOf : Mem → List Int → Prop
  | none, ps => ps = []
  | some (_, _, m), ps => Rises ps ∧ ∀ p, p ∈ ps ↔ ∃ y, ¬ m y = 0 ∧ pageOf y = p
theorem PsOf.one {d : Mem} {ps qs : List Int} (h : PsOf d ps) (k : PsOf d qs) : ps = qs := by
  cases d with
  | none => rw [h, k]
  | some d => exact rises_ext h.1 k.1 fun p => (h.2 p).trans (k.2 p).symm
/-- What Pages leaves. -/
def PgEnd (w : World) (d : Mem) (e : Ending) (w' : World) : Prop :=
  Below w.heap.size w w' ∧ ∃ a n c ps, e = .returned (.slice a n c) ∧ n = ps.length ∧ PsOf d ps ∧ w'.ownsRow w.heap.size 22 1 (.slice a n c) ps.length (ps.map (Value.int .u64))
theorem own_len {w : World} {B : Nat} {t : TypeId} {a : Option Addr} {n c m : Nat} {xs : List Value} (h : w.ownsRow B t 1 (.slice a n c) m xs) : n = m := by
  rcases h.2 with ⟨hv, h0⟩ | ⟨g, cap, cur, hv, _⟩
  · injection hv with _ h2 _; omega
  · injection hv with _ h2 _
theorem pagesP {w : World} {p : Value} {S : Nat → Prop} {d : Mem} (h : ProgD w p S d) : Calls Try.prog 13 #[p] w (PgEnd w d) := by
  cases d with
  | none => obtain rfl := h; exact (progPages_nil w).mono fun e w' ⟨h1, h2⟩ => ⟨h2 ▸ Below.refl _ _, none, 0, 0, [], h1, rfl, rfl, World.ownsRow_nil _ _ _ _⟩
  | some d =>
    obtain ⟨base, size, m⟩ := d
    obtain ⟨b, rfl, hM, hf⟩ := h
    exact (progPages_any hM hf).mono fun e w' ⟨h1, a, n, c, ps, h2, h3, h4, h5⟩ => ⟨h1, a, n, c, ps, h2, own_len h3, ⟨h4, h5⟩, h3⟩
theorem pagesR {w : World} {q : Value} {G : Nat → Prop} {N : Nat} {d : Mem} (h : RefD w q G N d) : Calls Try.prog 15 #[q] w (PgEnd w d) := by
  cases d with
  | none => obtain rfl := h; exact (refPages_nil w).mono fun e w' ⟨h1, h2⟩ => ⟨h2 ▸ Below.refl _ _, none, 0, 0, [], h1, rfl, rfl, World.ownsRow_nil _ _ _ _⟩
  | some d =>
    obtain ⟨base, size, m⟩ := d
    obtain ⟨b, g, rfl, hM, _⟩ := h
    exact (refPages_any w b g base size N m hM).mono fun e w' ⟨h1, a, n, c, ps, h2, h3, h4, h5⟩ => ⟨h1, a, n, c, ps, h2, own_len h3, ⟨h4, h5⟩, h3⟩

/-- A row of words of one's own that may be written. -/
def WritU (w : World) (a : Option Addr) (B n : Nat) : Prop := n = 0 ∨ ∃ g cur, a = some ⟨g, 0, none⟩ ∧ B ≤ g ∧ w.heap[g]? = some (.cells cur 22 (0, 0)) ∧ n ≤ cur.size ∧ ∀ j, j < n → ∃ u, cur[j]? = some (.int .u64 u)
theorem writU {w : World} {B n c m : Nat} {a : Option Addr} {xs : List Int} (h : w.ownsRow B 22 1 (.slice a n c) m (xs.map (Value.int .u64))) (hm : m = xs.length) : WritU w a B m := by
  subst hm
  rcases h.2 with ⟨hv, h0⟩ | ⟨g, cap, cur, hv, hg, hh, hn, _, hc, ht⟩
  · exact .inl h0
  · injection hv with h1 _ _
    refine .inr ⟨g, cur, h1, hg, hh, by omega, fun j hj => ⟨xs.getD j 0, ?_⟩⟩
    have e : (cur.toList.take (xs.length * 1))[j]? = some (.int .u64 (xs.getD j 0)) := by rw [ht]; simp [List.getD, hj]
    rw [List.getElem?_take, if_pos (by omega)] at e
    rw [← e]; simp
theorem WritU.below {w w' : World} {a : Option Addr} {B n : Nat} (h : WritU w a B n) (k : Below w.heap.size w w') : WritU w' a B n := by
  rcases h with h | ⟨g, cur, h1, h2, hh, hn, hc⟩
  · exact .inl h
  · exact .inr ⟨g, cur, h1, h2, by rw [k.block g (Array.getElem?_eq_some_iff.1 hh).1]; exact hh, hn, hc⟩
theorem WritU.set {w : World} {g B n k : Nat} (h : WritU w (some ⟨g, 0, none⟩) B n) (u : Int) : WritU (w.setCell ⟨g, k, none⟩ (.int .u64 u)) (some ⟨g, 0, none⟩) B n := by
  rcases h with h | ⟨g', cur, h1, h2, hh, hn, hc⟩
  · exact .inl h
  · injection h1 with h1; injection h1 with h1
    subst h1
    refine .inr ⟨g, _, rfl, h2, heap_setCell_same w g k cur _ _ hh, by simpa using hn, fun j hj => ?_⟩
    by_cases e : k = j
    · subst e; exact ⟨u, by rw [Array.getElem?_setIfInBounds, if_pos rfl, if_pos (by omega)]⟩
    · obtain ⟨v, hv⟩ := hc j hj
      exact ⟨v, by rw [Array.getElem?_setIfInBounds, if_neg e]; exact hv⟩

end Go.Proofs.Ytoghdkhlliehoaa
