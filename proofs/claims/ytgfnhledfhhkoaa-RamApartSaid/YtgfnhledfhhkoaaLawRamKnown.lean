/- The law RamKnown: the chapter's examples. -/
import Derived.Test.YtgfnhledfhhkoaaRam
namespace Go.Proofs.Ytgfnhledfhhkoaa
open Go.RowKit
set_option linter.unusedVariables false

theorem new_no (R : Full) {base size : Int} (h : newOk base size = false) (hb : In64 base) (hs : In64 size) (w : World) :
    Calls Try.prog 8 #[.int .u64 base, .int .u64 size] w fun e w' => e = .returned (.tuple #[.pointer none, .int .i64 1]) ∧ Below w.heap.size w w' :=
  (R.new base size w hb hs).mono fun e w' ⟨h1, h2⟩ => by
    rcases h2 with ⟨_, h2⟩ | ⟨h2, _⟩
    · exact ⟨h2, h1⟩
    · rw [h] at h2; cases h2
/-- What New leaves where it makes one. -/
def NewYes (R : Full) (w : World) (base size : Int) (e : Ending) (w' : World) : Prop :=
  Below w.heap.size w w' ∧ ∃ b S, e = .returned (.tuple #[.pointer (some ⟨b, 0, none⟩), .int .i64 0]) ∧ (∀ i, S i → w.heap.size ≤ i) ∧ R.M w' b S base size fun _ => 0
theorem new_yes (R : Full) {base size : Int} (h : newOk base size = true) (hb : In64 base) (hs : In64 size) (w : World) :
    Calls Try.prog 8 #[.int .u64 base, .int .u64 size] w (NewYes R w base size) :=
  (R.new base size w hb hs).mono fun e w' ⟨h1, h2⟩ => by
    rcases h2 with ⟨h2, _⟩ | ⟨_, h2⟩
    · rw [h] at h2; cases h2
    · exact ⟨h1, h2⟩

/-- A memory of the law's own: below w nothing has turned. -/
structure Mine (R : Full) (w0 w : World) (b : Nat) (S : Nat → Prop) (base size : Int) (m : Int → Int) : Prop where
  bel : Below w0.heap.size w0 w
  own : ∀ i, S i → w0.heap.size ≤ i
  mem : R.M w b S base size m
theorem Mine.later {R : Full} {w0 w w' : World} {b : Nat} {S : Nat → Prop} {base size : Int} {m : Int → Int} (h : Mine R w0 w b S base size m) (hb : Below w.heap.size w w') : Mine R w0 w' b S base size m :=
  ⟨h.bel.trans (hb.mono h.bel.size), h.own, R.keeps h.mem (Only.of_below (fun _ => False) hb) (fun _ _ => id)⟩
theorem Mine.turned {R : Full} {w0 w w' : World} {b : Nat} {S : Nat → Prop} {base size : Int} {m m' : Int → Int} {r : Bool} {e : Ending} (h : Mine R w0 w b S base size m) (k : ProgEnd R.M w b S base size m' r e w') : ∃ S', Mine R w0 w' b S' base size m' := by
  obtain ⟨_, ho, S', hS, hM⟩ := k
  refine ⟨S', Below.thenOnly h.bel ho h.own h.bel.size, fun i hi => ?_, hM⟩
  rcases hS i hi with h1 | h1
  · exact h.own i h1
  · exact Nat.le_trans h.bel.size h1

def knownA : Int → Int := writeM 4096 8192 (fun _ => 0) 4096 2 4660
def knownB : Int → Int := writeM 4096 8192 knownA 8190 4 16909060
def knownC : Int → Int := writeM 4096 8192 knownB 8192 2 0
theorem knownB_at (y : Int) : knownB y = if y = 8190 then 4 else if y = 8191 then 3 else if y = 8192 then 2 else if y = 8193 then 1 else if y = 4096 then 52 else if y = 4097 then 18 else 0 := by
  have e : (okN 4 && hasZ 4096 8192 8190 4) = true := by decide
  have e2 : (okN 2 && hasZ 4096 8192 4096 2) = true := by decide
  unfold knownB writeM
  rw [if_pos e]
  show wrN knownA 8190 16909060 4 y = _
  simp only [wrN, knownA, writeM]
  rw [if_pos e2]
  show _ = _
  simp only [show (2 : Int).toNat = 2 from rfl, wrN]
  rfl
theorem knownC_at (y : Int) : knownC y = if y = 8192 then 0 else if y = 8193 then 0 else knownB y := by
  have e : (okN 2 && hasZ 4096 8192 8192 2) = true := by decide
  unfold knownC writeM
  rw [if_pos e]
  show wrN knownB 8192 0 2 y = _
  simp only [wrN]
  rfl
theorem knownB_pages {ps : List Int} (h : Rises ps) (e : ∀ p, p ∈ ps ↔ ∃ y, ¬ knownB y = 0 ∧ pageOf y = p) : ps = [4096, 8192] := by
  refine rises_ext h (by unfold Rises; simp) fun p => ?_
  rw [e p]
  constructor
  · rintro ⟨y, hy, rfl⟩
    rw [knownB_at] at hy
    unfold pageOf
    simp
    repeat (split at hy; · omega)
    exact absurd rfl hy
  · intro hp
    simp at hp
    rcases hp with rfl | rfl
    · exact ⟨4096, by rw [knownB_at]; decide, by decide⟩
    · exact ⟨8192, by rw [knownB_at]; decide, by decide⟩
theorem knownC_pages {ps : List Int} (h : Rises ps) (e : ∀ p, p ∈ ps ↔ ∃ y, ¬ knownC y = 0 ∧ pageOf y = p) : ps = [4096] := by
  refine rises_ext h (by unfold Rises; simp) fun p => ?_
  rw [e p]
  constructor
  · rintro ⟨y, hy, rfl⟩
    rw [knownC_at] at hy
    unfold pageOf
    simp
    split at hy
    · exact absurd rfl hy
    split at hy
    · exact absurd rfl hy
    rw [knownB_at] at hy
    repeat (split at hy; · omega)
    exact absurd rfl hy
  · intro hp
    simp at hp
    subst hp
    exact ⟨4096, by rw [knownC_at, knownB_at]; decide, by decide⟩
theorem known_reads : readV 4096 8192 knownA 4096 1 = (52, true) ∧ readV 4096 8192 knownA 4097 1 = (18, true) ∧ readV 4096 8192 knownA 4095 2 = (0, false) ∧ readV 4096 8192 knownA 12284 8 = (0, false) ∧ readV 4096 8192 knownA 4096 3 = (0, false) := by
  refine ⟨?_, ?_, ?_, ?_, ?_⟩ <;> decide
theorem known_bytes : bytesV 4096 8192 knownB 8190 4 = [4, 3, 2, 1] := by
  have e : hasZ 4096 8192 8190 4 = true := by decide
  unfold bytesV
  rw [if_pos e]
  show (List.range 4).map _ = _
  simp [List.range_succ, knownB_at]

end Go.Proofs.Ytgfnhledfhhkoaa
