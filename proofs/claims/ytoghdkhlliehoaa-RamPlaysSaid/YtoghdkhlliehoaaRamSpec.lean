/- Layer 3's laws over whatever memory the program has, as long as its calls keep these contracts: the program's own proofs are handed in later. -/
import Derived.Test.YtoghdkhlliehoaaActs2
namespace Go.Proofs.Ytoghdkhlliehoaa
open Go.RowKit
set_option linter.unusedVariables false
set_option maxRecDepth 100000

/-- What a call leaves that may turn the object: its own blocks are the old ones, or new. -/
def ProgEnd (M : World → Nat → (Nat → Prop) → Int → Int → (Int → Int) → Prop) (w : World) (b : Nat) (S : Nat → Prop) (base size : Int) (m : Int → Int) (r : Bool) (e : Ending) (w' : World) : Prop :=
  e = .returned (.bool r) ∧ Only S w w' ∧ ∃ S', (∀ i, S' i → S i ∨ w.heap.size ≤ i) ∧ M w' b S' base size m

/-- The contracts of a memory of the program: M w b S base size m: the object in block b, whose own blocks are those of S, is the memory m. -/
structure Spec where
  M : World → Nat → (Nat → Prop) → Int → Int → (Int → Int) → Prop
  lt : ∀ {w b S base size m}, M w b S base size m → ∀ i, S i → i < w.heap.size
  bytey : ∀ {w b S base size m}, M w b S base size m → Bytey m
  keeps : ∀ {w w' : World} {b S base size m} {T : Nat → Prop}, M w b S base size m → Only T w w' → (∀ i, S i → ¬ T i) → M w' b S base size m
  has : ∀ {w b S base size m} (x n : Int), M w b S base size m → Fits base size → In64 x → In63 n →
    Calls Try.prog 26 #[.pointer (some ⟨b, 0, none⟩), .int .u64 x, .int .i64 n] w fun e w' => e = .returned (.bool (hasZ base size x n)) ∧ ∃ k, w' = w.drewN k
  read : ∀ {w b S base size m} (x n : Int), M w b S base size m → Fits base size → In64 x → In63 n →
    Calls Try.prog 17 #[.pointer (some ⟨b, 0, none⟩), .int .u64 x, .int .i64 n] w (ReadEnd w (readV base size m x n))
  write : ∀ {w b S base size m} (x n v : Int), M w b S base size m → Fits base size → In64 x → In63 n → In64 v →
    Calls Try.prog 16 #[.pointer (some ⟨b, 0, none⟩), .int .u64 x, .int .i64 n, .int .u64 v] w (ProgEnd M w b S base size (writeM base size m x n v) (okN n && hasZ base size x n))
  put : ∀ {w b S base size m} (x : Int) (v : Value) (xs : List Int) (g : Nat), M w b S base size m → Fits base size → In64 x → ReadsIn .u8 g w v xs → Bytes255 xs → (xs = [] ∨ ¬ S g) → xs.length ≤ 10000 → (∀ a n c, v = .slice a n c → n ≤ c) →
    Calls Try.prog 21 #[.pointer (some ⟨b, 0, none⟩), .int .u64 x, v] w (ProgEnd M w b S base size (putM base size m x xs) (hasZ base size x xs.length))
  bytes : ∀ {w b S base size m} (x n : Int), M w b S base size m → Fits base size → In64 x → In63 n → (n ≤ 100000 ∨ 67108864 < n) →
    Calls Try.prog 23 #[.pointer (some ⟨b, 0, none⟩), .int .u64 x, .int .i64 n] w (BytesEnd w (bytesV base size m x n) (hasZ base size x n))

theorem RefMem.norm {w : World} {b g : Nat} {base size : Int} {N : Nat} {m : Int → Int} (h : RefMem w b g base size N m) : ∃ g', (g' = g ∨ g' = b) ∧ g' < w.heap.size ∧ RefMem w b g' base size N m := by
  have hlt := h.lt
  obtain ⟨l, ⟨a, c, h1, h2, h3⟩, h4⟩ := h
  rcases h3 with h3 | ⟨h5, h6, h7⟩
  · exact ⟨b, .inr rfl, hlt, l, ⟨a, c, h1, h2, .inl h3⟩, h4⟩
  · exact ⟨g, .inl rfl, h7.lt, l, ⟨a, c, h1, h2, .inr ⟨h5, h6, h7⟩⟩, h4⟩

/-- The program's memory and the document's, the same memory, apart. -/
def Pair (R : Spec) (w : World) (b : Nat) (S : Nat → Prop) (b2 g2 : Nat) (base size : Int) (N : Nat) (m : Int → Int) : Prop :=
  R.M w b S base size m ∧ RefMem w b2 g2 base size N m ∧ ¬ S b2 ∧ ¬ S g2 ∧ g2 < w.heap.size ∧ Fits base size
/-- What an act leaves. -/
def PairEnd (R : Spec) (w : World) (b : Nat) (S : Nat → Prop) (b2 g2 : Nat) (base size : Int) (N : Nat) (m : Int → Int) (w' : World) : Prop :=
  Only (fun i => S i ∨ i = b2) w w' ∧ ∃ S' g', (∀ i, S' i → S i ∨ w.heap.size ≤ i) ∧ (g' = g2 ∨ g' = b2 ∨ w.heap.size ≤ g') ∧ Pair R w' b S' b2 g' base size N m

theorem Pair.same {R : Spec} {w w' : World} {b : Nat} {S : Nat → Prop} {b2 g2 : Nat} {base size : Int} {N : Nat} {m : Int → Int} (h : Pair R w b S b2 g2 base size N m) (k : Below w.heap.size w w') : Pair R w' b S b2 g2 base size N m := by
  obtain ⟨h1, h2, h3, h4, h5, h6⟩ := h
  exact ⟨R.keeps h1 (Only.of_below (fun _ => False) k) (fun _ _ => id), h2.below k, h3, h4, Nat.lt_of_lt_of_le h5 k.size, h6⟩
theorem Pair.end_same {R : Spec} {w w' : World} {b : Nat} {S : Nat → Prop} {b2 g2 : Nat} {base size : Int} {N N' : Nat} {m : Int → Int} (h : Pair R w b S b2 g2 base size N m) (k : Below w.heap.size w w') (hN : N ≤ N') : PairEnd R w b S b2 g2 base size N' m w' := by
  obtain ⟨h1, h2, h3, h4, h5, h6⟩ := h.same k
  exact ⟨Only.of_below _ k, S, g2, fun i hi => .inl hi, .inl rfl, h1, h2.congr (fun _ => rfl) hN, h3, h4, h5, h6⟩

/-- The program's call, then the document's: both have become m'. -/
theorem Pair.both {R : Spec} {w w1 w2 : World} {b : Nat} {S : Nat → Prop} {b2 g2 : Nat} {base size : Int} {N N' : Nat} {m m' : Int → Int} {r r' : Bool} {e e' : Ending} (h : Pair R w b S b2 g2 base size N m)
    (k1 : ProgEnd R.M w b S base size m' r e w1) (k2 : ∀ g, g = g2 → MemEnd w1 b2 g base size N' m' r' e' w2) : PairEnd R w b S b2 g2 base size N' m' w2 := by
  obtain ⟨h1, h2, h3, h4, h5, h6⟩ := h
  obtain ⟨_, o1, S', hS', hM⟩ := k1
  obtain ⟨_, o2, g', hg', hR⟩ := k2 g2 rfl
  obtain ⟨g'', hg'', hlt, hR2⟩ := hR.norm
  have hb2 : b2 < w.heap.size := h2.lt
  have s1 := o1.size
  have n1 : ¬ S' b2 := fun hs => by rcases hS' b2 hs with hs | hs; exact h3 hs; omega
  refine ⟨o1.mono (fun i hi => .inl (.inl hi)) |>.step o2 (fun i hi => .inl (.inr hi)), S', g'', hS', ?_, R.keeps hM o2 (fun i hi he => by subst he; exact n1 hi), hR2, n1, ?_, hlt, h6⟩
  · rcases hg'' with rfl | rfl
    · rcases hg' with rfl | hg'
      · exact .inl rfl
      · exact .inr (.inr (by omega))
    · exact .inr (.inl rfl)
  · intro hs
    rcases hg'' with rfl | rfl
    · rcases hg' with rfl | hg'
      · rcases hS' _ hs with hs | hs
        · exact h4 hs
        · omega
      · have := R.lt hM _ hs; omega
    · exact n1 hs

end Go.Proofs.Ytoghdkhlliehoaa
