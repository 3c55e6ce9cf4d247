/- Layer 3's laws: a list of acts as it comes in, each act's bytes within the reach. -/
import Derived.Test.YtoghdkhlliehoaaActs2
import Derived.SizedLaws
namespace Go.Proofs.Ytoghdkhlliehoaa
open Go.RowKit Go.ChangeShapes Go.WideShapes Go.Deep
set_option linter.unusedVariables false
set_option maxRecDepth 100000

theorem weightsAll_mem {H : Type} {P : Program} {e : TypeId} : ∀ {ds : List (DataW H)} {i : Nat} {d : DataW H} {n : Nat}, ds[i]? = some d → n ∈ d.weights P e → n ∈ DataW.weightsAll P e ds
  | [], i, d, n, h, _ => by simp at h
  | d0 :: ds, 0, d, n, h, hn => by
    simp at h; subst h
    simp only [DataW.weightsAll, List.mem_append]; exact .inl hn
  | d0 :: ds, i + 1, d, n, h, hn => by
    simp at h
    simp only [DataW.weightsAll, List.mem_append]; exact .inr (weightsAll_mem h hn)

section
variable {H : Type} {enc : TypeId × Value → H} {P : Program} {w : World} {base : Nat} {spare : Nat → Bool} {held : Bool}
/-- The cells of a struct whose fields are one cell each, each field's reading, and the parts of the datum. -/
theorem parts_of {t : TypeId} {fs : Array Field} {n : Nat} {cs : List Value} {x : DataW H × List MemPlace} (hs : P.underlying t = some (.struct fs)) (hone : oneCellFields P fs = true) (hC : P.cellsOf t = fs.size)
    (h : DataW.trod enc P w base spare held n t cs = some x) : ∃ parts, x.1 = .agg parts ∧ ∀ (j : Nat) (f : Field), fs[j]? = some f → ∃ v y k, cs[j]? = some v ∧ DataW.trod enc P w base spare held k f.type [v] = some y ∧ parts[j]? = some y.1 := by
  obtain ⟨xs, k, _, hx, hl, hlen, hf⟩ := DataW.trod_struct hs h
  refine ⟨xs.map (·.1), by rw [hx], fun j f hj => ?_⟩
  obtain ⟨ho, hc⟩ := hone_of hone j f hj
  have hjs : j < fs.size := (Array.getElem?_eq_some_iff.1 hj).1
  have hjl : j < cs.length := by omega
  have hjx : j < xs.length := by omega
  have h1 := hf j f hj
  rw [ho, hc, List.drop_eq_getElem_cons hjl, List.take_succ_cons, List.take_zero, List.getElem?_eq_getElem hjx] at h1
  exact ⟨_, _, k, List.getElem?_eq_getElem hjl, h1, by rw [List.getElem?_map, List.getElem?_eq_getElem hjx]; rfl⟩
end

theorem open_bytes2 {H : Type} {enc : TypeId × Value → H} {w : World} {base : Nat} {spare : Nat → Bool} {held : Bool} {k : Nat} {v : Value} {y : DataW H × List MemPlace} (h : DataW.trod enc Try.prog w base spare held k 38 [v] = some y) :
    ∃ xs, ReadsL .u8 w.heap.size w v xs ∧ Bytes255 xs ∧ ∀ R, (∀ n ∈ DataW.weights Try.prog 38 y.1, n ≤ R) → xs.length ≤ R := by
  have hb1 : Try.prog.bytesOf 5 = 1 := by kernel_rfl
  rcases open_ints Try.underlying38 Try.underlying5 (by kernel_rfl) h with ⟨hcs, _⟩ | ⟨x, l, c, zs, hcs, _, hl, hm, hz, hy, hcell, hwz⟩
  · simp at hcs; subst hcs
    exact ⟨[], ⟨none, 0, rfl, Nat.zero_le _, .inl rfl⟩, fun i hi => by simp at hi, fun R _ => Nat.zero_le _⟩
  · simp at hcs; subst hcs
    have hlz : l ≤ zs.length := by split at hz <;> omega
    have hlen : (zs.take l).length = l := by rw [List.length_take]; omega
    refine ⟨zs.take l, ⟨some x, c, by rw [hlen], by omega, ?_⟩, fun i hi => ?_, fun R hR => ?_⟩
    · by_cases h0 : l = 0
      · exact .inl (by rw [h0, List.take_zero])
      · right
        obtain ⟨b, off, rfl, hcell2⟩ := Go.ints_at hcell (by omega)
        refine ⟨b, off, rfl, ?_, fun i hi => ?_⟩
        · exact block_lt (hcell2 0 (by omega))
        · rw [hcell2 i (by omega)]
          simp [List.getD, show i < l by omega]
    · rw [hlen] at hi
      have e : (zs.take l).getD i 0 = zs[i]'(by omega) := by simp [List.getD, hi, show i < zs.length by omega]
      rw [e]
      exact wf_u8 (hwz _ (List.getElem_mem _))
    · have := hR ((lits .u8 (zs.take l) : List (DataW H)).length + (lits .u8 (zs.drop l) : List (DataW H)).length) (by
        rw [hy]
        simp only [DataW.weights, Try.underlying38, hb1, Nat.mul_one]
        exact List.mem_cons_self)
      simp only [lits, List.length_map] at this
      omega

theorem open_acts2 {H : Type} {enc : TypeId × Value → H} {w : World} {spare : Nat → Bool} {held : Bool} {d : DataW H} {p : List MemPlace} {a : Option Addr} {len cap R : Nat}
    (h : DataW.Trod enc Try.prog w 0 spare held 23 (.slice a len cap) d p) (hw : ∀ n ∈ DataW.weights Try.prog 23 d, n ≤ R) : ∃ xs, IsActs w a len cap xs ∧ ∀ i (hi : i < xs.length), xs[i].bs.length ≤ R := by
  obtain ⟨fuel, hf⟩ := h
  rcases open_slice Try.underlying23 hf with ⟨hcs, _⟩ | ⟨x, l, c, m, n, D, Pl, hcs, _, hl, hm, hmm, hD, hi⟩
  · simp [Value.cells] at hcs
    obtain ⟨rfl, rfl, rfl⟩ := hcs
    exact ⟨[], ⟨rfl, Nat.zero_le _, .inl rfl⟩, fun i hi => by simp at hi⟩
  · simp [Value.cells] at hcs
    obtain ⟨rfl, rfl, rfl⟩ := hcs
    have hlm : len ≤ m := by rw [hmm]; split <;> omega
    have hC : Try.prog.cellsOf 40 = 5 := by kernel_rfl
    rw [hC] at hi
    by_cases h0 : len = 0
    · exact ⟨[], ⟨by simp [h0], by omega, .inl h0⟩, fun i hi => by simp at hi⟩
    have hplain : ∃ b off, x = ⟨b, off, none⟩ := by
      obtain ⟨cs', hc, htr⟩ := hi 0 (by omega)
      obtain ⟨_, hcl, hat⟩ := World.cells?_some hc
      obtain ⟨v0, y0, k0, hv0, _⟩ := (fields_of Try.underlying40 (by kernel_rfl) (by kernel_rfl) htr).2 0 _ rfl
      obtain ⟨b, off, spot⟩ := x
      have h1 := (hat 0 (by omega)).trans hv0
      have hspot : spot = none := by simpa [Addr.add] using World.cell?_spot h1
      subst hspot
      exact ⟨b, off, rfl⟩
    obtain ⟨b, off, rfl⟩ := hplain
    have each : ∀ i, i < len → ∃ xa : ActV, ActAt w.heap.size w ⟨b, off + i * 5, none⟩ xa ∧ xa.bs.length ≤ R := by
      intro i hil
      obtain ⟨cs', hc, htr⟩ := hi i (by omega)
      obtain ⟨_, hcl, hat⟩ := World.cells?_some hc
      obtain ⟨parts, hparts, hfs⟩ := parts_of Try.underlying40 (by kernel_rfl) (by kernel_rfl) htr
      obtain ⟨v0, y0, k0, hv0, t0, _⟩ := hfs 0 _ rfl
      obtain ⟨v1, y1, k1, hv1, t1, _⟩ := hfs 1 _ rfl
      obtain ⟨v2, y2, k2, hv2, t2, _⟩ := hfs 2 _ rfl
      obtain ⟨v3, y3, k3, hv3, t3, _⟩ := hfs 3 _ rfl
      obtain ⟨v4, y4, k4, hv4, t4, hp4⟩ := hfs 4 _ rfl
      obtain ⟨n0, e0, _, w0⟩ := DataW.trod_int Try.underlying3 t0
      obtain ⟨n1, e1, _, w1⟩ := DataW.trod_int Try.underlying22 t1
      obtain ⟨n2, e2, _, w2⟩ := DataW.trod_int Try.underlying3 t2
      obtain ⟨n3, e3, _, w3⟩ := DataW.trod_int Try.underlying22 t3
      simp at e0 e1 e2 e3
      subst e0 e1 e2 e3
      obtain ⟨bs, hr, hb, hlen⟩ := open_bytes2 t4
      have ha : (⟨b, off, none⟩ : Addr).add (i * 5) = ⟨b, off + i * 5, none⟩ := add_none b off (i * 5)
      rw [ha] at hat
      refine ⟨⟨n0, n1, n2, n3, v4, bs⟩, ⟨(hat 0 (by omega)).trans hv0, (hat 1 (by omega)).trans hv1, (hat 2 (by omega)).trans hv2, (hat 3 (by omega)).trans hv3, (hat 4 (by omega)).trans hv4, hr, hb, of_wf63 w0, of_wf w1, of_wf63 w2, of_wf w3⟩, ?_⟩
      refine hlen R fun q hq => hw q ?_
      have hd : d = .slice ((List.range len).map D) ((List.range (m - len)).map fun j => D (len + j)) := congrArg Prod.fst hD
      have hDi : D i = .agg parts := hparts
      have q1 : q ∈ (D i).weights Try.prog 40 := by
        rw [hDi]
        simp only [DataW.weights, Try.underlying40]
        exact DataW.weights_mem_each (j := 4) (t := 38) rfl hp4 q hq
      have q2 : q ∈ DataW.weightsAll Try.prog 40 ((List.range len).map D) := weightsAll_mem (i := i) (by rw [List.getElem?_map, List.getElem?_range hil]; rfl) q1
      rw [hd]
      simp only [DataW.weights, Try.underlying23]
      exact List.mem_cons_of_mem _ (List.mem_append_left _ q2)
    have hb : b < w.heap.size := by
      obtain ⟨xa, ⟨h1, _⟩, _⟩ := each 0 (by omega)
      have := block_lt h1
      simpa [add_none] using this
    refine ⟨(List.range len).map fun i => if h : i < len then Classical.choose (each i h) else ⟨0, 0, 0, 0, .bool false, []⟩, ⟨by simp, by omega, .inr ⟨b, off, rfl, hb, fun i hil => ?_⟩⟩, fun i hil => ?_⟩
    · have hil2 : i < len := by simpa using hil
      have hs := (Classical.choose_spec (each i hil2)).1
      simpa [hil2] using hs
    · have hil2 : i < len := by simpa using hil
      have hs := (Classical.choose_spec (each i hil2)).2
      simpa [hil2] using hs

end Go.Proofs.Ytoghdkhlliehoaa
