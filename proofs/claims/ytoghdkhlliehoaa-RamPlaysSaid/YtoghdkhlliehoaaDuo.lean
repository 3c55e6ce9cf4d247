/- Layer 3's laws: a memory of the program and the document's, both or none; two such pairs apart. -/
import Derived.Test.YtoghdkhlliehoaaRam
import Derived.Test.YtoghdkhlliehoaaPm14
namespace Go.Proofs.Ytoghdkhlliehoaa
open Go.RowKit
set_option linter.unusedVariables false
set_option maxRecDepth 100000

theorem ReadsL.toIn {k : IntKind} {B : Nat} {w : World} {v : Value} {xs : List Int} (h : ReadsL k B w v xs) (hB : B ≤ w.heap.size) : ∃ g, ReadsIn k g w v xs ∧ (xs = [] ∨ g < B) := by
  obtain ⟨a, c, hv, hm, h⟩ := h
  rcases h with h | ⟨b, off, ha, hb, hc⟩
  · exact ⟨0, ⟨a, c, hv, hm, .inl h⟩, .inl h⟩
  · exact ⟨b, ⟨a, c, hv, hm, .inr ⟨off, ha, Nat.lt_of_lt_of_le hb hB, hc⟩⟩, .inr hb⟩
theorem bulk_mono (xs : List ActV) (k : Nat) : ∀ n, bulk xs k ≤ bulk xs (k + n) := by
  intro n
  induction n with
  | zero => exact Nat.le_refl _
  | succ n ih =>
    by_cases c : k + n < xs.length
    · have := bulk_succ c
      rw [← Nat.add_assoc, this]; omega
    · have : bulk xs (k + (n + 1)) = bulk xs (k + n) := by unfold bulk; rw [List.take_of_length_le (by omega), List.take_of_length_le (by omega)]
      omega
theorem bulk_has {xs : List ActV} {k : Nat} (h : k < xs.length) : xs[k].bs.length ≤ bulk xs xs.length := by
  have h1 := bulk_succ h
  have h2 := bulk_mono xs (k + 1) (xs.length - (k + 1))
  rw [show k + 1 + (xs.length - (k + 1)) = xs.length by omega] at h2
  omega

/-- Which memory: none, or its base, its size and its bytes. -/
abbrev Mem := Option (Int × Int × (Int → Int))
def newD (base size : Int) : Mem := if newOk base size = true then some (base, size, fun _ => 0) else none
/-- The program's value p is that memory, its blocks are S's. -/
def ProgD (w : World) (p : Value) (S : Nat → Prop) : Mem → Prop
  | none => p = .pointer none
  | some (base, size, m) => ∃ b, p = .pointer (some ⟨b, 0, none⟩) ∧ ProgMem w b S base size m ∧ Fits base size
/-- The document's. -/
def RefD (w : World) (q : Value) (G : Nat → Prop) (N : Nat) : Mem → Prop
  | none => q = .pointer none
  | some (base, size, m) => ∃ b g, q = .pointer (some ⟨b, 0, none⟩) ∧ RefMem w b g base size N m ∧ G b ∧ G g ∧ g < w.heap.size
/-- Both are the same memory, apart; T holds their blocks. -/
def Duo (w : World) (p q : Value) (T : Nat → Prop) (N : Nat) : Mem → Prop
  | none => p = .pointer none ∧ q = .pointer none
  | some (base, size, m) => ∃ b S b2 g2, p = .pointer (some ⟨b, 0, none⟩) ∧ q = .pointer (some ⟨b2, 0, none⟩) ∧ Pair ram.toSpec w b S b2 g2 base size N m ∧ (∀ i, S i → T i) ∧ T b2 ∧ T g2
/-- Two memories are the same. -/
def SameD : Mem → Mem → Prop
  | none, none => True
  | some (b1, s1, m1), some (b2, s2, m2) => b1 = b2 ∧ s1 = s2 ∧ ∀ y, m1 y = m2 y
  | some _, none => False
  | none, some _ => False
theorem SameD.refl (d : Mem) : SameD d d := by
  cases d with
  | none => trivial
  | some d => exact ⟨rfl, rfl, fun _ => rfl⟩

theorem ProgD.keeps {w w' : World} {p : Value} {S U : Nat → Prop} {d : Mem} (h : ProgD w p S d) (o : Only U w w') (hd : ∀ i, S i → ¬ U i) : ProgD w' p S d := by
  cases d with
  | none => exact h
  | some d =>
    obtain ⟨base, size, m⟩ := d
    obtain ⟨b, hp, h1, hf⟩ := h
    exact ⟨b, hp, h1.keeps o hd, hf⟩
theorem ProgD.below {w w' : World} {p : Value} {S : Nat → Prop} {d : Mem} (h : ProgD w p S d) (o : Below w.heap.size w w') : ProgD w' p S d := h.keeps (Only.of_below (fun _ => False) o) fun _ _ => id
theorem RefD.below {w w' : World} {q : Value} {G : Nat → Prop} {N : Nat} {d : Mem} (h : RefD w q G N d) (o : Below w.heap.size w w') : RefD w' q G N d := by
  cases d with
  | none => exact h
  | some d =>
    obtain ⟨base, size, m⟩ := d
    obtain ⟨b, g, hq, h1, h2, h3, h4⟩ := h
    exact ⟨b, g, hq, h1.below o, h2, h3, Nat.lt_of_lt_of_le h4 o.size⟩
theorem Duo.keeps {w w' : World} {p q : Value} {T U : Nat → Prop} {N : Nat} {d : Mem} (h : Duo w p q T N d) (o : Only U w w') (hd : ∀ i, T i → ¬ U i) : Duo w' p q T N d := by
  cases d with
  | none => exact h
  | some d =>
    obtain ⟨base, size, m⟩ := d
    obtain ⟨b, S, b2, g2, hp, hq, ⟨h1, h2, h3, h4, h5, h6⟩, hS, hb, hg⟩ := h
    exact ⟨b, S, b2, g2, hp, hq, ⟨ram.keeps h1 o (fun i hi => hd i (hS i hi)), h2.keeps o (hd _ hb) (hd _ hg), h3, h4, Nat.lt_of_lt_of_le h5 o.size, h6⟩, hS, hb, hg⟩
theorem Duo.below {w w' : World} {p q : Value} {T : Nat → Prop} {N : Nat} {d : Mem} (h : Duo w p q T N d) (o : Below w.heap.size w w') : Duo w' p q T N d := h.keeps (Only.of_below (fun _ => False) o) fun _ _ => id
theorem duo_of {w : World} {p q : Value} {S G : Nat → Prop} {N : Nat} {d : Mem} (h : ProgD w p S d) (k : RefD w q G N d) (hd : ∀ i, S i → ¬ G i) : Duo w p q (fun i => S i ∨ G i) N d := by
  cases d with
  | none => exact ⟨h, k⟩
  | some d =>
    obtain ⟨base, size, m⟩ := d
    obtain ⟨b, hp, h1, hf⟩ := h
    obtain ⟨b2, g2, hq, h2, h3, h4, h5⟩ := k
    exact ⟨b, S, b2, g2, hp, hq, ⟨h1, h2, fun hs => hd _ hs h3, fun hs => hd _ hs h4, h5, hf⟩, fun i hi => .inl hi, .inr h3, .inr h4⟩
theorem Duo.prog {w : World} {p q : Value} {T : Nat → Prop} {N : Nat} {d : Mem} (h : Duo w p q T N d) : ∃ S, ProgD w p S d := by
  cases d with
  | none => exact ⟨fun _ => False, h.1⟩
  | some d =>
    obtain ⟨base, size, m⟩ := d
    obtain ⟨b, S, b2, g2, hp, hq, ⟨h1, h2, h3, h4, h5, h6⟩, _⟩ := h
    exact ⟨S, b, hp, h1, h6⟩
theorem Duo.ref {w : World} {p q : Value} {T : Nat → Prop} {N : Nat} {d : Mem} (h : Duo w p q T N d) : ∃ G, RefD w q G N d := by
  cases d with
  | none => exact ⟨fun _ => False, h.2⟩
  | some d =>
    obtain ⟨base, size, m⟩ := d
    obtain ⟨b, S, b2, g2, hp, hq, ⟨h1, h2, h3, h4, h5, h6⟩, _⟩ := h
    exact ⟨fun _ => True, b2, g2, hq, h2, trivial, trivial, h5⟩

/-- What the program's New leaves. -/
def NewP (w : World) (d : Mem) (e : Ending) (w' : World) : Prop :=
  Below w.heap.size w w' ∧ ∃ (p : Value) (k : Int) (S : Nat → Prop), e = .returned (.tuple #[p, .int .i64 k]) ∧ (∀ i, S i → w.heap.size ≤ i ∧ i < w'.heap.size) ∧ ProgD w' p S d
theorem newP_any (base size : Int) (w : World) (hb : In64 base) (hs : In64 size) : Calls Try.prog 6 #[.int .u64 base, .int .u64 size] w (NewP w (newD base size)) := by
  refine (ram.new base size w hb hs).mono ?_
  rintro e w' ⟨hB, h⟩
  unfold newD
  rcases h with ⟨h0, rfl⟩ | ⟨h0, b, S, rfl, hS, hM⟩
  · rw [h0, if_neg (by simp)]
    exact ⟨hB, _, _, fun _ => False, rfl, fun _ h => h.elim, rfl⟩
  · rw [if_pos h0]
    exact ⟨hB, _, _, S, rfl, fun i hi => ⟨hS i hi, ram.lt hM i hi⟩, b, rfl, hM, newOk_fits hb h0⟩
/-- What the document's leaves. -/
def NewR (w : World) (d : Mem) (e : Ending) (w' : World) : Prop :=
  Below w.heap.size w w' ∧ ∃ (q : Value) (k : Int) (G : Nat → Prop), e = .returned (.tuple #[q, .int .i64 k]) ∧ (∀ i, G i → w.heap.size ≤ i ∧ i < w'.heap.size) ∧ RefD w' q G 0 d
theorem newR_any (base size : Int) (w : World) (hb : In64 base) (hs : In64 size) : Calls Try.prog 7 #[.int .u64 base, .int .u64 size] w (NewR w (newD base size)) := by
  refine (refNew_any base size hb hs w).mono ?_
  rintro e w' h
  unfold newD
  rcases h with ⟨h0, rfl, rfl⟩ | ⟨h0, rfl, hB, hM⟩
  · rw [h0, if_neg (by simp)]
    exact ⟨Below.refl _ _, _, _, fun _ => False, rfl, fun _ h => h.elim, rfl⟩
  · rw [if_pos h0]
    obtain ⟨g, hg, hlt, hM2⟩ := hM.norm
    have hl := hM2.lt
    refine ⟨hB, _, _, fun i => w.heap.size ≤ i ∧ i < w'.heap.size, rfl, fun i hi => hi, _, g, rfl, hM2, ⟨Nat.le_refl _, hl⟩, ⟨?_, hlt⟩, hlt⟩
    rcases hg with rfl | rfl
    · omega
    · omega

/-- What an act leaves. -/
def DuoEnd (w : World) (p q : Value) (T : Nat → Prop) (N : Nat) (e : Ending) (w' : World) : Prop :=
  e = .returned (.bool true) ∧ Only T w w' ∧ ∃ T' d', (∀ i, T' i → T i ∨ w.heap.size ≤ i) ∧ (∀ i, T' i → i < w'.heap.size) ∧ Duo w' p q T' (N + 3008) d'
theorem duo_act (w : World) (p q : Value) (T : Nat → Prop) (N : Nat) (d : Mem) (x : ActV) (gx : Nat) (h : Duo w p q T N d) (hT : ∀ i, T i → i < w.heap.size) (hr : ReadsIn .u8 gx w x.b x.bs) (hbs : Bytes255 x.bs) (hl : x.bs.length ≤ 3000)
    (hx : x.bs = [] ∨ ¬ T gx) (ia : In64 x.a) (inn : In63 x.n) (iv : In64 x.v) (hN : N < 800000) :
    Calls Try.prog 10 #[p, q, .agg (actCells x)] w (DuoEnd w p q T N) := by
  cases d with
  | none =>
    obtain ⟨rfl, rfl⟩ := h
    refine (bothNil_any ram.nils w gx x hr hbs hl).mono ?_
    rintro e w' ⟨he, hb⟩
    exact ⟨he, Only.of_below T hb, T, none, fun i hi => .inl hi, fun i hi => Nat.lt_of_lt_of_le (hT i hi) hb.size, rfl, rfl⟩
  | some d =>
    obtain ⟨base, size, m⟩ := d
    obtain ⟨b, S, b2, g2, rfl, rfl, hP, hS, hb, hg⟩ := h
    refine (both_any ram.toSpec w b S b2 g2 gx base size N m x hP hr hbs hl (hx.imp id fun h => ⟨fun e => by subst e; exact h hb, fun hs => h (hS _ hs)⟩) ia inn iv hN).mono ?_
    rintro e w' ⟨he, m', ho, S', g', hS', hg', hP'⟩
    have h1 := hP'.1
    have h2 := hP'.2.1.lt
    have h5 := hP'.2.2.2.2.1
    refine ⟨he, ho.mono (fun i hi => .inl ?_), fun i => S' i ∨ i = b2 ∨ i = g', some (base, size, m'), fun i hi => ?_, fun i hi => ?_, b, S', b2, g', rfl, rfl, hP', fun i hi => .inl hi, .inr (.inl rfl), .inr (.inr rfl)⟩
    · rcases hi with hi | rfl
      · exact hS i hi
      · exact hb
    · rcases hi with hi | rfl | rfl
      · exact (hS' i hi).imp (hS i) id
      · exact .inl hb
      · rcases hg' with rfl | rfl | h
        · exact .inl hg
        · exact .inl hb
        · exact .inr h
    · rcases hi with hi | rfl | rfl
      · exact ram.lt h1 i hi
      · exact h2
      · exact h5

/-- Two pairs of a law's own, apart. -/
def Two (w0 : World) (p q p' q' : Value) (n n' : Nat) (w : World) : Prop :=
  ∃ (T T' : Nat → Prop) (d d' : Mem), Below w0.heap.size w0 w ∧ (∀ i, T i → w0.heap.size ≤ i ∧ i < w.heap.size) ∧ (∀ i, T' i → w0.heap.size ≤ i ∧ i < w.heap.size) ∧ (∀ i, T i → ¬ T' i) ∧ Duo w p q T n d ∧ Duo w p' q' T' n' d'
theorem Two.swap {w0 w : World} {p q p' q' : Value} {n n' : Nat} (h : Two w0 p q p' q' n n' w) : Two w0 p' q' p q n' n w := by
  obtain ⟨T, T', d, d', h1, h2, h3, h4, h5, h6⟩ := h
  exact ⟨T', T, d', d, h1, h3, h2, fun i hi hj => h4 i hj hi, h6, h5⟩
theorem two_act (w0 w : World) (p q p' q' : Value) (n n' : Nat) (x : ActV) (h : Two w0 p q p' q' n n' w) (hr : ReadsL .u8 w0.heap.size w x.b x.bs) (hbs : Bytes255 x.bs) (hl : x.bs.length ≤ 3000) (ia : In64 x.a) (inn : In63 x.n) (iv : In64 x.v) (hN : n < 800000) :
    Calls Try.prog 10 #[p, q, .agg (actCells x)] w fun e w' => e = .returned (.bool true) ∧ Two w0 p q p' q' (n + 3008) n' w' := by
  obtain ⟨T, T', d, d', h1, h2, h3, h4, h5, h6⟩ := h
  obtain ⟨g, hg, hlt⟩ := hr.toIn h1.size
  refine (duo_act w p q T n d x g h5 (fun i hi => (h2 i hi).2) hg hbs hl (hlt.imp id fun h hs => by have := (h2 _ hs).1; omega) ia inn iv hN).mono ?_
  rintro e w' ⟨he, ho, T1, d1, hT1, hT2, hD⟩
  have hs := ho.size
  have hs0 := h1.size
  refine ⟨he, T1, T', d1, d', Below.thenOnly h1 ho (fun i hi => (h2 i hi).1) hs0, fun i hi => ⟨?_, hT2 i hi⟩, fun i hi => ⟨(h3 i hi).1, by have := (h3 i hi).2; omega⟩, fun i hi hj => ?_, hD, h6.keeps ho fun i hi hj => h4 i hj hi⟩
  · rcases hT1 i hi with h | h
    · exact (h2 i h).1
    · omega
  · rcases hT1 i hi with h | h
    · exact h4 i h hj
    · have := (h3 i hj).2; omega

end Go.Proofs.Ytoghdkhlliehoaa
