/- Layer 3's laws: a list of acts as it comes in; whether it is too great. -/
import Derived.Test.YtoghdkhlliehoaaActs
namespace Go.Proofs.Ytoghdkhlliehoaa
open Go.RowKit Go.ChangeShapes Go.WideShapes Go.Deep
set_option linter.unusedVariables false
set_option maxRecDepth 100000

section
variable {H : Type} {enc : TypeId × Value → H} {P : Program} {w : World} {base : Nat} {spare : Nat → Bool} {held : Bool}
/-- The cells of a struct whose fields are one cell each, and each field's reading. -/
theorem fields_of {t : TypeId} {fs : Array Field} {n : Nat} {cs : List Value} {x : DataW H × List MemPlace} (hs : P.underlying t = some (.struct fs)) (hone : oneCellFields P fs = true) (hC : P.cellsOf t = fs.size)
    (h : DataW.trod enc P w base spare held n t cs = some x) : cs.length = fs.size ∧ ∀ (j : Nat) (f : Field), fs[j]? = some f → ∃ v y k, cs[j]? = some v ∧ DataW.trod enc P w base spare held k f.type [v] = some y := by
  obtain ⟨xs, k, _, _, hl, hlen, hf⟩ := DataW.trod_struct hs h
  refine ⟨hl.trans hC, fun j f hj => ?_⟩
  obtain ⟨ho, hc⟩ := hone_of hone j f hj
  have hjs : j < fs.size := (Array.getElem?_eq_some_iff.1 hj).1
  have hjl : j < cs.length := by omega
  have hjx : j < xs.length := by omega
  have h1 := hf j f hj
  rw [ho, hc, List.drop_eq_getElem_cons hjl, List.take_succ_cons, List.take_zero, List.getElem?_eq_getElem hjx] at h1
  exact ⟨_, _, k, List.getElem?_eq_getElem hjl, h1⟩
end

/-- An act, as the program's data tell it. -/
structure ActV where
  d : Int
  a : Int
  n : Int
  v : Int
  b : Value
  bs : List Int

/-- The act that stands in five cells from an address on, its bytes in a block below B. -/
def ActAt (B : Nat) (w : World) (ad : Addr) (x : ActV) : Prop :=
  w.cell? (ad.add 0) = some (.int .i64 x.d) ∧ w.cell? (ad.add 1) = some (.int .u64 x.a) ∧ w.cell? (ad.add 2) = some (.int .i64 x.n) ∧ w.cell? (ad.add 3) = some (.int .u64 x.v) ∧ w.cell? (ad.add 4) = some x.b ∧
  ReadsL .u8 B w x.b x.bs ∧ Bytes255 x.bs ∧ In63 x.d ∧ In64 x.a ∧ In63 x.n ∧ In64 x.v

/-- What the frame tells of a list of acts that came in. -/
def IsActs (w : World) (a : Option Addr) (len cap : Nat) (xs : List ActV) : Prop :=
  xs.length = len ∧ len ≤ maxLen ∧ (len = 0 ∨ ∃ b off, a = some ⟨b, off, none⟩ ∧ b < w.heap.size ∧ ∀ i (h : i < xs.length), ActAt w.heap.size w ⟨b, off + i * 5, none⟩ xs[i])

theorem wf_u8 {x : Int} (h : (Lit.int .u8 x).wf = true) : 0 ≤ x ∧ x ≤ 255 := by
  have h2 := h
  simp [Lit.wf, IntKind.min, IntKind.max, IntKind.signed, IntKind.bits] at h2
  omega
theorem block_lt {w : World} {p : Addr} {v : Value} (h : w.cell? p = some v) : p.block < w.heap.size := by
  by_cases hb : p.block < w.heap.size
  · exact hb
  · have hn : w.heap[p.block]? = none := by simp; omega
    simp [World.cell?, hn] at h

theorem open_bytes {H : Type} {enc : TypeId × Value → H} {w : World} {base : Nat} {spare : Nat → Bool} {held : Bool} {k : Nat} {v : Value} {y : DataW H × List MemPlace} (h : DataW.trod enc Try.prog w base spare held k 38 [v] = some y) :
    ∃ xs, ReadsL .u8 w.heap.size w v xs ∧ Bytes255 xs := by
  rcases open_ints Try.underlying38 Try.underlying5 (by kernel_rfl) h with ⟨hcs, _⟩ | ⟨x, l, c, zs, hcs, _, hl, hm, hz, _, hcell, hwz⟩
  · simp at hcs; subst hcs
    exact ⟨[], ⟨none, 0, rfl, Nat.zero_le _, .inl rfl⟩, fun i hi => by simp at hi⟩
  · simp at hcs; subst hcs
    have hlz : l ≤ zs.length := by split at hz <;> omega
    have hlen : (zs.take l).length = l := by rw [List.length_take]; omega
    refine ⟨zs.take l, ⟨some x, c, by rw [hlen], by omega, ?_⟩, fun i hi => ?_⟩
    · by_cases h0 : l = 0
      · exact .inl (by rw [h0, List.take_zero])
      · right
        obtain ⟨b, off, rfl, hcell2⟩ := Go.ints_at hcell (by omega)
        refine ⟨b, off, rfl, ?_, fun i hi => ?_⟩
        · exact block_lt (hcell2 0 (by omega))
        · rw [hcell2 i (by omega)]
          simp [List.getD, show i < l by omega]
    · rw [hlen] at hi
      have e : (zs.take l).getD i 0 = zs[i]'(by omega) := by simp [List.getD, hi, show i < zs.length by omega]
      rw [e]
      exact wf_u8 (hwz _ (List.getElem_mem _))

theorem open_acts {H : Type} {enc : TypeId × Value → H} {w : World} {spare : Nat → Bool} {held : Bool} {v : Value} {d : DataW H} {p : List MemPlace} {a : Option Addr} {len cap : Nat}
    (h : DataW.Trod enc Try.prog w 0 spare held 23 (.slice a len cap) d p) : ∃ xs, IsActs w a len cap xs := by
  obtain ⟨fuel, hf⟩ := h
  rcases open_slice Try.underlying23 hf with ⟨hcs, _⟩ | ⟨x, l, c, m, n, D, Pl, hcs, _, hl, hm, hmm, _, hi⟩
  · simp [Value.cells] at hcs
    obtain ⟨rfl, rfl, rfl⟩ := hcs
    exact ⟨[], rfl, Nat.zero_le _, .inl rfl⟩
  · simp [Value.cells] at hcs
    obtain ⟨rfl, rfl, rfl⟩ := hcs
    have hlm : len ≤ m := by rw [hmm]; split <;> omega
    have hC : Try.prog.cellsOf 40 = 5 := by kernel_rfl
    rw [hC] at hi
    by_cases h0 : len = 0
    · exact ⟨[], by simp [h0], by omega, .inl h0⟩
    have hplain : ∃ b off, x = ⟨b, off, none⟩ := by
      obtain ⟨cs', hc, htr⟩ := hi 0 (by omega)
      obtain ⟨_, hcl, hat⟩ := World.cells?_some hc
      obtain ⟨v0, y0, k0, hv0, _⟩ := (fields_of Try.underlying40 (by kernel_rfl) (by kernel_rfl) htr).2 0 _ rfl
      obtain ⟨b, off, spot⟩ := x
      have h1 := (hat 0 (by omega)).trans hv0
      have hspot : spot = none := by simpa [Addr.add] using World.cell?_spot h1
      subst hspot
      exact ⟨b, off, rfl⟩
    obtain ⟨b, off, rfl⟩ := hplain
    have each : ∀ i, i < len → ∃ xa : ActV, ActAt w.heap.size w ⟨b, off + i * 5, none⟩ xa := by
      intro i hil
      obtain ⟨cs', hc, htr⟩ := hi i (by omega)
      obtain ⟨_, hcl, hat⟩ := World.cells?_some hc
      obtain ⟨_, hfs⟩ := fields_of Try.underlying40 (by kernel_rfl) (by kernel_rfl) htr
      obtain ⟨v0, y0, k0, hv0, t0⟩ := hfs 0 _ rfl
      obtain ⟨v1, y1, k1, hv1, t1⟩ := hfs 1 _ rfl
      obtain ⟨v2, y2, k2, hv2, t2⟩ := hfs 2 _ rfl
      obtain ⟨v3, y3, k3, hv3, t3⟩ := hfs 3 _ rfl
      obtain ⟨v4, y4, k4, hv4, t4⟩ := hfs 4 _ rfl
      obtain ⟨n0, e0, _, w0⟩ := DataW.trod_int Try.underlying3 t0
      obtain ⟨n1, e1, _, w1⟩ := DataW.trod_int Try.underlying22 t1
      obtain ⟨n2, e2, _, w2⟩ := DataW.trod_int Try.underlying3 t2
      obtain ⟨n3, e3, _, w3⟩ := DataW.trod_int Try.underlying22 t3
      simp at e0 e1 e2 e3
      subst e0 e1 e2 e3
      obtain ⟨bs, hr, hb⟩ := open_bytes t4
      have ha : (⟨b, off, none⟩ : Addr).add (i * 5) = ⟨b, off + i * 5, none⟩ := add_none b off (i * 5)
      rw [ha] at hat
      exact ⟨⟨n0, n1, n2, n3, v4, bs⟩, (hat 0 (by omega)).trans hv0, (hat 1 (by omega)).trans hv1, (hat 2 (by omega)).trans hv2, (hat 3 (by omega)).trans hv3, (hat 4 (by omega)).trans hv4, hr, hb, of_wf63 w0, of_wf w1, of_wf63 w2, of_wf w3⟩
    have hb : b < w.heap.size := by
      obtain ⟨xa, h1, _⟩ := each 0 (by omega)
      have := block_lt h1
      simpa [add_none] using this
    refine ⟨(List.range len).map fun i => if h : i < len then Classical.choose (each i h) else ⟨0, 0, 0, 0, .bool false, []⟩, by simp, by omega, .inr ⟨b, off, rfl, hb, fun i hil => ?_⟩⟩
    have hil2 : i < len := by simpa using hil
    have hs := Classical.choose_spec (each i hil2)
    simpa [hil2] using hs

/-- How many bytes the first k acts bear. -/
def bulk (xs : List ActV) (k : Nat) : Nat := ((xs.take k).map fun x => x.bs.length).foldr (· + ·) 0
theorem bulk_zero (xs : List ActV) : bulk xs 0 = 0 := rfl
theorem foldr_snoc (l : List Nat) (n : Nat) : (l ++ [n]).foldr (· + ·) 0 = l.foldr (· + ·) 0 + n := by
  induction l with
  | nil => simp
  | cons a l ih => simp only [List.cons_append, List.foldr_cons, ih]; omega
theorem bulk_succ {xs : List ActV} {k : Nat} (h : k < xs.length) : bulk xs (k + 1) = bulk xs k + xs[k].bs.length := by
  unfold bulk
  rw [List.take_succ_eq_append_getElem h, List.map_append, List.map_cons, List.map_nil, foldr_snoc]
theorem bulk_le {xs : List ActV} (h : ∀ i (hi : i < xs.length), xs[i].bs.length ≤ 140737488355328) (k : Nat) : bulk xs k ≤ k * 140737488355328 := by
  induction k with
  | zero => simp [bulk_zero]
  | succ k ih =>
    by_cases c : k < xs.length
    · rw [bulk_succ c]; have := h k c; omega
    · have : bulk xs (k + 1) = bulk xs k := by unfold bulk; rw [List.take_of_length_le (by omega), List.take_of_length_le (by omega)]
      omega

/-- The acts still stand there. -/
def ActsIn (B : Nat) (w : World) (v : Value) (xs : List ActV) : Prop :=
  ∃ a c, v = .slice a xs.length c ∧ xs.length ≤ maxLen ∧ (xs = [] ∨ ∃ b off, a = some ⟨b, off, none⟩ ∧ b < B ∧ ∀ i (h : i < xs.length), ActAt B w ⟨b, off + i * 5, none⟩ xs[i])
theorem ActAt.below {B : Nat} {w w' : World} {b off : Nat} {x : ActV} (h : ActAt B w ⟨b, off, none⟩ x) (k : Below B w w') (hb : b < B) : ActAt B w' ⟨b, off, none⟩ x := by
  obtain ⟨h0, h1, h2, h3, h4, h5, h6⟩ := h
  rw [add_none] at h0 h1 h2 h3 h4
  refine ⟨?_, ?_, ?_, ?_, ?_, h5.below k (Nat.le_refl _), h6⟩
  all_goals rw [add_none]
  · exact (k.cell (p := ⟨b, off + 0, none⟩) hb).trans h0
  · exact (k.cell (p := ⟨b, off + 1, none⟩) hb).trans h1
  · exact (k.cell (p := ⟨b, off + 2, none⟩) hb).trans h2
  · exact (k.cell (p := ⟨b, off + 3, none⟩) hb).trans h3
  · exact (k.cell (p := ⟨b, off + 4, none⟩) hb).trans h4
theorem ActsIn.below {B : Nat} {w w' : World} {v : Value} {xs : List ActV} (h : ActsIn B w v xs) (k : Below B w w') : ActsIn B w' v xs := by
  obtain ⟨a, c, hv, hm, h⟩ := h
  refine ⟨a, c, hv, hm, ?_⟩
  rcases h with h | ⟨b, off, ha, hb, hc⟩
  · exact .inl h
  · exact .inr ⟨b, off, ha, hb, fun i hi => (hc i hi).below k hb⟩
theorem IsActs.reads {w : World} {a : Option Addr} {len cap : Nat} {xs : List ActV} (h : IsActs w a len cap xs) : ActsIn w.heap.size w (.slice a len cap) xs := by
  obtain ⟨rfl, hm, h⟩ := h
  refine ⟨a, cap, rfl, hm, ?_⟩
  rcases h with h | ⟨b, off, ha, hb, hc⟩
  · exact .inl (List.eq_nil_of_length_eq_zero h)
  · exact .inr ⟨b, off, ha, hb, hc⟩

/-- What Great answers: where it is false the acts are few, and their bytes. -/
def GreatEnd (xs : List ActV) (w : World) (e : Ending) (w' : World) : Prop := w = w' ∧ ∃ r : Bool, e = .returned (.bool r) ∧ (r = false → xs.length ≤ 60 ∧ bulk xs xs.length ≤ 3000)

set_option maxHeartbeats 1000000 in
theorem great_any (B : Nat) (w : World) (v : Value) (xs : List ActV) (h : ActsIn B w v xs) (hl : ∀ i (hi : i < xs.length), xs[i].bs.length ≤ 140737488355328) :
    Calls Try.prog 5 #[v] w (GreatEnd xs w) := by
  obtain ⟨a, c, rfl, hm, hx⟩ := h
  unfold maxLen at hm
  go_enter Try.func5, Try.ntmps5
  go_wp2
  go_loop [3, 4] (fun n i => ∃ k : Nat, k ≤ xs.length ∧ k ≤ 61 ∧ i = .int .i64 k ∧ n = .int .i64 (bulk xs k)) (fun _ i => xs.length - (intOf i).toNat)
  case atStart => exact ⟨0, Nat.zero_le _, by omega, rfl, rfl⟩
  case round =>
    obtain ⟨k, hk, hk61, rfl, rfl⟩ := hrel
    have hbu := bulk_le hl k
    by_cases hlt : k < xs.length
    · by_cases h60 : k ≤ 60
      · rcases hx with rfl | ⟨b, off, rfl, hb, hc⟩
        · simp at hlt
        obtain ⟨_, _, _, _, h4, h5, _⟩ := hc k hlt
        rw [add_none] at h4
        obtain ⟨ab, cb, hbv, hbm, _⟩ := h5
        have hlk := hl k hlt
        have HS := Lib.hid (bulk_succ hlt)
        rw [hbv] at h4
        clear hbv hc
        generalize xs[k].bs.length = q at *
        generalize bulk xs k = n at *
        go_wp2
        exact ⟨⟨k + 1, by omega, by omega, by go_num, by rw [HS.out]; go_num⟩, by simp [intOf]; omega⟩
      · have hgt : 60 < xs.length := by omega
        have HX := Lib.hid hx
        clear hx
        generalize bulk xs k = n at *
        go_wp2
        go_ret
        exact ⟨rfl, true, rfl, fun h => by cases h⟩
    · obtain rfl : k = xs.length := by omega
      have HX := Lib.hid hx
      have h60 : ¬ 60 < xs.length ∨ 60 < xs.length := by omega
      obtain ⟨n, hn⟩ : ∃ n, bulk xs xs.length = n := ⟨_, rfl⟩
      rw [hn] at hbu ⊢
      have HN := Lib.hid hn
      clear hx hn
      by_cases c1 : 60 < xs.length
      · go_wp2
        go_ret
        exact ⟨rfl, true, rfl, fun h => by cases h⟩
      · by_cases c2 : 3000 < n
        · go_wp2
          go_ret
          exact ⟨rfl, true, ret_bool (by simp; omega), fun h => by cases h⟩
        · go_wp2
          go_ret
          exact ⟨rfl, false, ret_bool (by simp; omega), fun _ => ⟨by omega, by rw [HN.out]; omega⟩⟩

end Go.Proofs.Ytoghdkhlliehoaa
