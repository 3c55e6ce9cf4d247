/- The program's memory of layer 3: a struct that holds base, size and a map to pages. The small calls' contracts. -/
import Derived.Test.YtoghdkhlliehoaaRamFull
import Derived.Test.YtoghdkhlliehoaaArrEq
import Derived.Test.YtoghdkhlliehoaaPgMap
import Derived.Laws.CopyOwn
import Derived.Shelf.Bytes.SlCountOne
import Derived.Laws.EntriesVeiled
namespace Go.Proofs.Ytoghdkhlliehoaa
open Go.RowKit Go.Maps
set_option linter.unusedVariables false
set_option maxRecDepth 100000

theorem pgT : PgT Try.prog 51 22 59 := ⟨Try.underlying22, Try.underlying51, fun w => Try.zeroValue59 w⟩

/-- Block g holds the 4096 bytes of m from 4096 q on. -/
def PageAt (w : World) (g : Nat) (m : Int → Int) (q : Int) : Prop := w.heap[g]? = some (.cells (uarr 4096 fun i => m (q * 4096 + i)) 61 (0, 0))

/-- What the map and the pages hold. -/
structure PgOk (w : World) (b mb : Nat) (S : Nat → Prop) (m : Int → Int) (pg : Int → Option Nat) : Prop where
  map : PgMap Try.prog 22 w mb pg
  page : ∀ q g, pg q = some g → PageAt w g m q ∧ S g ∧ g ≠ b ∧ g ≠ mb ∧ ∃ i : Nat, i < 4096 ∧ ¬ m (q * 4096 + i) = 0
  gone : ∀ q, pg q = none → ∀ i : Nat, i < 4096 → m (q * 4096 + i) = 0
  inj : ∀ q q' g, pg q = some g → pg q' = some g → q = q'
  sb : S b
  smb : S mb
  ne : mb ≠ b
  lt : ∀ i, S i → i < w.heap.size

/-- The object in block b, whose own blocks are those of S, is the memory m. -/
def ProgMem (w : World) (b : Nat) (S : Nat → Prop) (base size : Int) (m : Int → Int) : Prop :=
  ∃ mb pg, w.heap[b]? = some (.cells #[.int .u64 base, .int .u64 size, .map (some mb)] 53 (0, 0)) ∧ PgOk w b mb S m pg ∧ Bytey m ∧ (∀ y, ¬ m y = 0 → base ≤ y ∧ y < base + size) ∧ base % 4096 = 0 ∧ size % 4096 = 0

theorem ProgMem.keeps {w w' : World} {b : Nat} {S : Nat → Prop} {base size : Int} {m : Int → Int} {T : Nat → Prop} (h : ProgMem w b S base size m) (o : Only T w w') (hs : ∀ i, S i → ¬ T i) : ProgMem w' b S base size m := by
  obtain ⟨mb, pg, h1, h2, h3⟩ := h
  refine ⟨mb, pg, o.keeps (hs _ h2.sb) h1, ⟨h2.map.keeps o (hs _ h2.smb), fun q g e => ?_, h2.gone, h2.inj, h2.sb, h2.smb, h2.ne, fun i hi => Nat.lt_of_lt_of_le (h2.lt i hi) o.size⟩, h3⟩
  obtain ⟨k1, k2, k3⟩ := h2.page q g e
  exact ⟨o.keeps (hs _ k2) k1, k2, k3⟩

theorem pages_in {w : World} {b mb : Nat} {S : Nat → Prop} {m : Int → Int} {pg : Int → Option Nat} {base size : Int} (h : PgOk w b mb S m pg) (hf : Fits base size) (hm : ∀ y, ¬ m y = 0 → base ≤ y ∧ y < base + size) (h1 : base % 4096 = 0) (h2 : size % 4096 = 0) :
    ∀ q, pg q ≠ none → base / 4096 ≤ q ∧ q < base / 4096 + (16384 : Nat) := by
  intro q hq
  cases e : pg q with
  | none => exact absurd e hq
  | some g =>
    obtain ⟨_, _, _, _, i, hi, hne⟩ := h.page q g e
    have := hm _ hne
    unfold Fits at hf
    omega

theorem isWhole_any (n : Int) (hn : In64 n) (w : World) :
    Calls Try.prog 18 #[.int .u64 n] w fun e w' => e = .returned (.bool (n % 4096 == 0)) ∧ w = w' := by
  have h1 := hn.1
  have h2 := hn.2
  go_enter Try.func18, Try.ntmps18
  go_wp2
  go_ret
  exact ⟨rfl, rfl⟩

theorem isLength_any (n : Int) (w : World) :
    Calls Try.prog 30 #[.int .i64 n] w fun e w' => e = .returned (.bool (okN n)) ∧ w = w' := by
  by_cases h1 : n = 1
  · subst h1
    go_enter Try.func30, Try.ntmps30
    go_wp2
    go_ret
    exact ⟨rfl, rfl⟩
  by_cases h2 : n = 2
  · subst h2
    go_enter Try.func30, Try.ntmps30
    go_wp2
    go_ret
    exact ⟨rfl, rfl⟩
  by_cases h3 : n = 4
  · subst h3
    go_enter Try.func30, Try.ntmps30
    go_wp2
    go_ret
    exact ⟨rfl, rfl⟩
  by_cases h4 : n = 8
  · subst h4
    go_enter Try.func30, Try.ntmps30
    go_wp2
    go_ret
    exact ⟨rfl, rfl⟩
  have e : okN n = false := by unfold okN; rw [decide_eq_false]; omega
  rw [e]
  have e1 : (n == 1) = false := by simpa using h1
  have e2 : (n == 2) = false := by simpa using h2
  have e3 : (n == 4) = false := by simpa using h3
  have e4 : (n == 8) = false := by simpa using h4
  clear h1 h2 h3 h4 e
  go_enter Try.func30, Try.ntmps30
  go_wp2
  go_ret
  exact ⟨rfl, rfl⟩

theorem place_any (x : Int) (hx : In64 x) (w : World) :
    Calls Try.prog 42 #[.int .u64 x] w fun e w' => e = .returned (.tuple #[.int .u64 (x / 4096), .int .i64 (x % 4096)]) ∧ w = w' := by
  have h1 := hx.1
  have h2 := hx.2
  go_enter Try.func42, Try.ntmps42
  go_wp2
  go_ret2
  exact ⟨rfl, rfl⟩

end Go.Proofs.Ytoghdkhlliehoaa
