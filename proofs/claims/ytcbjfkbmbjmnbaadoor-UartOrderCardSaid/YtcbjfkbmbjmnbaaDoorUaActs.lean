/- A list of acts as it comes in: each act's cells, and that they stand there still. -/
import Derived.Test.YtcbjfkbmbjmnbaaDoorRows
import Derived.Test.YtcbjfkbmbjmnbaaDoorBv
import Derived.Test.YtcbjfkbmbjmnbaaDoorInts
import Derived.Laws.BytesArg
import Derived.Deep.Slices
import Derived.Deep.Fields
import Derived.ChangeSame
import Derived.WalkKit
import Derived.ProofKit
import Derived.Below
import Derived.Laws.Tables
namespace Go.Proofs.YtcbjfkbmbjmnbaaDoor
open Go.RowKit Go.ChangeShapes Go.WideShapes Go.Deep
set_option linter.unusedVariables false

section
variable {H : Type} {enc : TypeId × Value → H} {P : Program} {w : World} {base : Nat} {spare : Nat → Bool} {held : Bool}
/-- The cells of a struct whose fields are one cell each, and each field's reading. -/
theorem fields_of {t : TypeId} {fs : Array Field} {n : Nat} {cs : List Value} {x : DataW H × List MemPlace} (hs : P.underlying t = some (.struct fs)) (hone : oneCellFields P fs = true) (hC : P.cellsOf t = fs.size)
    (h : DataW.trod enc P w base spare held n t cs = some x) : cs.length = fs.size ∧ ∀ (j : Nat) (f : Field), fs[j]? = some f → ∃ v y k, cs[j]? = some v ∧ DataW.trod enc P w base spare held k f.type [v] = some y := by
  obtain ⟨xs, k, _, _, hl, hlen, hf⟩ := DataW.trod_struct hs h
  refine ⟨hl.trans hC, fun j f hj => ?_⟩
  obtain ⟨ho, hc⟩ := hone_of hone j f hj
  have hjs : j < fs.size := (Array.getElem?_eq_some_iff.1 hj).1
  have hjl : j < cs.length := by omega
  have hjx : j < xs.length := by omega
  have h1 := hf j f hj
  rw [ho, hc, List.drop_eq_getElem_cons hjl, List.take_succ_cons, List.take_zero, List.getElem?_eq_getElem hjx] at h1
  exact ⟨_, _, k, List.getElem?_eq_getElem hjl, h1⟩
end
theorem wf_u8 {x : Int} (h : (Lit.int .u8 x).wf = true) : 0 ≤ x ∧ x ≤ 255 := by
  have h2 := h
  simp [Lit.wf, IntKind.min, IntKind.max, IntKind.signed, IntKind.bits] at h2
  omega
theorem block_lt {w : World} {p : Addr} {v : Value} (h : w.cell? p = some v) : p.block < w.heap.size := by
  by_cases hb : p.block < w.heap.size
  · exact hb
  · have hn : w.heap[p.block]? = none := by simp; omega
    simp [World.cell?, hn] at h

/-- An act, as the program's data tell it. -/
structure ActV where
  d : Int
  a : Int
  n : Int
  v : Int
/-- The act that stands in cells from an address on. -/
def ActAt (w : World) (ad : Addr) (x : ActV) : Prop :=
  w.cell? (ad.add 0) = some (.int .i64 x.d) ∧ w.cell? (ad.add 1) = some (.int .u64 x.a) ∧ w.cell? (ad.add 2) = some (.int .i64 x.n) ∧ w.cell? (ad.add 3) = some (.int .u64 x.v) ∧ In63 x.d ∧ In64 x.a ∧ In63 x.n ∧ In64 x.v
/-- The acts that stand there, in a block below B. -/
def ActsIn (B : Nat) (w : World) (v : Value) (xs : List ActV) : Prop :=
  ∃ a c, v = .slice a xs.length c ∧ xs.length ≤ maxLen ∧ (xs = [] ∨ ∃ b off, a = some ⟨b, off, none⟩ ∧ b < B ∧ ∀ i (h : i < xs.length), ActAt w ⟨b, off + i * 4, none⟩ xs[i])
theorem ActAt.below {B : Nat} {w w' : World} {b off : Nat} {x : ActV} (h : ActAt w ⟨b, off, none⟩ x) (k : Below B w w') (hb : b < B) : ActAt w' ⟨b, off, none⟩ x := by
  unfold ActAt at *
  simp only [add_none] at *
  obtain ⟨h0, h1, h2, h3, hr⟩ := h
  exact ⟨(k.cell (p := ⟨b, off + 0, none⟩) hb).trans h0, (k.cell (p := ⟨b, off + 1, none⟩) hb).trans h1, (k.cell (p := ⟨b, off + 2, none⟩) hb).trans h2, (k.cell (p := ⟨b, off + 3, none⟩) hb).trans h3, hr⟩
theorem ActsIn.below {B : Nat} {w w' : World} {v : Value} {xs : List ActV} (h : ActsIn B w v xs) (k : Below B w w') : ActsIn B w' v xs := by
  obtain ⟨a, c, hv, hm, h⟩ := h
  refine ⟨a, c, hv, hm, ?_⟩
  rcases h with h | ⟨b, off, ha, hb, hc⟩
  · exact .inl h
  · exact .inr ⟨b, off, ha, hb, fun i hi => (hc i hi).below k hb⟩
/-- The cells of the k-th act, and its ranges. -/
theorem act_at {w : World} {b off : Nat} {x : ActV} (h : ActAt w ⟨b, off, none⟩ x) : w.cell? ⟨b, off, none⟩ = some (.int .i64 x.d) ∧ w.cell? ⟨b, off + 1, none⟩ = some (.int .u64 x.a) ∧ w.cell? ⟨b, off + 2, none⟩ = some (.int .i64 x.n) ∧ w.cell? ⟨b, off + 3, none⟩ = some (.int .u64 x.v) ∧ In63 x.d ∧ In64 x.a ∧ In63 x.n ∧ In64 x.v := by
  unfold ActAt at h
  simp only [add_none, Nat.add_zero] at h
  exact h

theorem open_acts {H : Type} {enc : TypeId × Value → H} {w : World} {spare : Nat → Bool} {held : Bool} {d : DataW H} {p : List MemPlace} {a : Option Addr} {len cap : Nat}
    (h : DataW.Trod enc Tryd.prog w 0 spare held 35 (.slice a len cap) d p) : ∃ xs, ActsIn w.heap.size w (.slice a len cap) xs := by
  obtain ⟨fuel, hf⟩ := h
  rcases open_slice Tryd.underlying35 hf with ⟨hcs, _⟩ | ⟨x, l, c, m, n, D, Pl, hcs, _, hl, hm, hmm, hD, hi⟩
  · simp [Value.cells] at hcs
    obtain ⟨rfl, rfl, rfl⟩ := hcs
    exact ⟨[], _, _, rfl, Nat.zero_le _, .inl rfl⟩
  · simp [Value.cells] at hcs
    obtain ⟨rfl, rfl, rfl⟩ := hcs
    have hlm : len ≤ m := by rw [hmm]; split <;> omega
    have hC : Tryd.prog.cellsOf 40 = 4 := by kernel_rfl
    rw [hC] at hi
    by_cases h0 : len = 0
    · subst h0; exact ⟨[], _, _, rfl, Nat.zero_le _, .inl rfl⟩
    have hplain : ∃ b off, x = ⟨b, off, none⟩ := by
      obtain ⟨cs', hc, htr⟩ := hi 0 (by omega)
      obtain ⟨_, hcl, hat⟩ := World.cells?_some hc
      obtain ⟨v0, y0, k0, hv0, _⟩ := (fields_of Tryd.underlying40 (by kernel_rfl) (by kernel_rfl) htr).2 0 _ rfl
      obtain ⟨b, off, spot⟩ := x
      have h1 := (hat 0 (by omega)).trans hv0
      have hspot : spot = none := by simpa [Addr.add] using World.cell?_spot h1
      subst hspot
      exact ⟨b, off, rfl⟩
    obtain ⟨b, off, rfl⟩ := hplain
    have each : ∀ i, i < len → ∃ xa : ActV, ActAt w ⟨b, off + i * 4, none⟩ xa := by
      intro i hil
      obtain ⟨cs', hc, htr⟩ := hi i (by omega)
      obtain ⟨_, hcl, hat⟩ := World.cells?_some hc
      obtain ⟨_, hfs⟩ := fields_of Tryd.underlying40 (by kernel_rfl) (by kernel_rfl) htr
      obtain ⟨v0, y0, k0, hv0, t0⟩ := hfs 0 _ rfl
      obtain ⟨v1, y1, k1, hv1, t1⟩ := hfs 1 _ rfl
      obtain ⟨v2, y2, k2, hv2, t2⟩ := hfs 2 _ rfl
      obtain ⟨v3, y3, k3, hv3, t3⟩ := hfs 3 _ rfl
      obtain ⟨n0, e0, _, w0⟩ := DataW.trod_int Tryd.underlying3 t0
      obtain ⟨n1, e1, _, w1⟩ := DataW.trod_int Tryd.underlying27 t1
      obtain ⟨n2, e2, _, w2⟩ := DataW.trod_int Tryd.underlying3 t2
      obtain ⟨n3, e3, _, w3⟩ := DataW.trod_int Tryd.underlying27 t3
      simp at e0 e1 e2 e3
      subst e0 e1 e2 e3
      have ha : (⟨b, off, none⟩ : Addr).add (i * 4) = ⟨b, off + i * 4, none⟩ := add_none b off (i * 4)
      rw [ha] at hat
      exact ⟨⟨n0, n1, n2, n3⟩, (hat 0 (by omega)).trans hv0, (hat 1 (by omega)).trans hv1, (hat 2 (by omega)).trans hv2, (hat 3 (by omega)).trans hv3, of_wf63 w0, of_wf w1, of_wf63 w2, of_wf w3⟩
    have hb : b < w.heap.size := by
      obtain ⟨xa, h1, _⟩ := each 0 (by omega)
      have := block_lt h1
      simpa [add_none] using this
    refine ⟨(List.range len).map fun i => if h : i < len then Classical.choose (each i h) else ⟨0, 0, 0, 0⟩, _, cap, by simp, by simp; omega, .inr ⟨b, off, rfl, hb, fun i hil => ?_⟩⟩
    have hil2 : i < len := by simpa using hil
    have hs := Classical.choose_spec (each i hil2)
    simpa [hil2] using hs

end Go.Proofs.YtcbjfkbmbjmnbaaDoor
