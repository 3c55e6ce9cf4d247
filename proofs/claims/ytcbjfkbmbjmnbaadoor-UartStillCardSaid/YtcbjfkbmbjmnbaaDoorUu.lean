/- Layer 6's laws: a pair of the law's own; a pair with an old uart beside it; two pairs. -/
import Derived.Test.YtcbjfkbmbjmnbaaDoorUt
namespace Go.Proofs.YtcbjfkbmbjmnbaaDoor
open Go.RowKit
set_option linter.unusedVariables false

/-- A pair of the law's own. -/
def OwnD (w0 w : World) (a c : Nat) (t : US) : Prop := Tab w0 ∧ Below w0.heap.size w0 w ∧ ∃ Fa Fc T, (∀ i, T i → w0.heap.size ≤ i) ∧ Duo w a c Fa Fc T t
theorem ownNewR (w0 w : World) (hb : Below w0.heap.size w0 w) : Calls Tryd.prog 20 #[] w fun e w' => ∃ c F, e = .returned (.pointer (some ⟨c, 0, none⟩)) ∧ Below w.heap.size w w' ∧ (∀ i, F i → w.heap.size ≤ i) ∧ UR w' c F u0 :=
  (refNew_any w).mono fun e w' ⟨b, F, vi, vo, he, k, hn, h⟩ => ⟨b, F, he, k, hn, vi, vo, h⟩
theorem OwnD.made {w0 w w' : World} {a c : Nat} {Fa Fc : Nat → Prop} {t : US} (h : OwnU w0 w a Fa t) (k : Below w.heap.size w w') (hn : ∀ i, Fc i → w.heap.size ≤ i) (hc : UR w' c Fc t) : OwnD w0 w' a c t := by
  have h2 := h.below k
  refine ⟨h.tab0, h2.bel, Fa, Fc, fun i => Fa i ∨ Fc i, fun i hi => hi.elim (h.new i) (fun h3 => Nat.le_trans h.bel.size (hn i h3)), h2.obj, hc, fun i hi hj => ?_, fun i hi => .inl hi, fun i hi => .inr hi, h2.tab, fun hi => ?_⟩
  · have := h.obj.lt i hi
    have := hn i hj
    omega
  · rcases hi with hi | hi
    · exact h.nt hi
    · have := hn _ hi
      have := h.tab.lt
      omega
theorem OwnD.act {w0 w w' : World} {a c : Nat} {T : Nat → Prop} {t' : US} (ht : Tab w0) (hb : Below w0.heap.size w0 w) (hn : ∀ i, T i → w0.heap.size ≤ i) (k : DuoEnd w a c T t' w') : OwnD w0 w' a c t' := by
  obtain ⟨o, Fa', Fc', T', hT, hD⟩ := k
  refine ⟨ht, Below.thenOnly hb o hn hb.size, Fa', Fc', T', fun i hi => ?_, hD⟩
  rcases (hT i hi).1 with h3 | h3
  · exact hn i h3
  · exact Nat.le_trans hb.size h3
theorem OwnD.both {w0 w : World} {a c : Nat} {t : US} (h : OwnD w0 w a c t) (x : ActV) (r1 : In64 x.a) (r3 : In64 x.v) :
    Calls Tryd.prog 21 #[.pointer (some ⟨a, 0, none⟩), .pointer (some ⟨c, 0, none⟩), actVal x] w fun e w' => e = .returned (.bool true) ∧ OwnD w0 w' a c (actT t x) := by
  obtain ⟨ht, hb, Fa, Fc, T, hn, hD⟩ := h
  exact (both_any w a c Fa Fc T t x hD r1 r3).mono fun e w' ⟨he, k⟩ => ⟨he, OwnD.act ht hb hn k⟩
theorem OwnD.bel {w0 w : World} {a c : Nat} {t : US} (h : OwnD w0 w a c t) : Below w0.heap.size w0 w := h.2.1
theorem OwnD.tab0 {w0 w : World} {a c : Nat} {t : US} (h : OwnD w0 w a c t) : Tab w0 := h.1
theorem OwnD.below {w0 w w' : World} {a c : Nat} {t : US} (h : OwnD w0 w a c t) (k : Below w.heap.size w w') : OwnD w0 w' a c t := by
  obtain ⟨ht, hb, Fa, Fc, T, hn, hD⟩ := h
  exact ⟨ht, hb.trans (k.mono hb.size), Fa, Fc, T, hn, hD.below k⟩

/-- An old uart, a new one, and the document's: three of the law's own, apart. -/
structure Trio (w0 w : World) (a b c : Nat) (Fa Fb Fc : Nat → Prop) (s t v : US) : Prop where
  tab0 : Tab w0
  bel : Below w0.heap.size w0 w
  na : ∀ i, Fa i → w0.heap.size ≤ i
  nb : ∀ i, Fb i → w0.heap.size ≤ i
  nc : ∀ i, Fc i → w0.heap.size ≤ i
  pa : UP w a Fa s
  pb : UP w b Fb t
  rc : UR w c Fc v
  ab : ∀ i, Fa i → ¬ Fb i
  ac : ∀ i, Fa i → ¬ Fc i
  bc : ∀ i, Fb i → ¬ Fc i
section
variable {w0 w w' : World} {a b c : Nat} {Fa Fb Fc : Nat → Prop} {s t v s' t' v' : US}
theorem Trio.tab (h : Trio w0 w a b c Fa Fb Fc s t v) : Tab w := h.tab0.below h.bel
theorem Trio.ta (h : Trio w0 w a b c Fa Fb Fc s t v) : ¬ Fa 0 := fun hi => by have := h.na _ hi; have := h.tab0.lt; omega
theorem Trio.tb (h : Trio w0 w a b c Fa Fb Fc s t v) : ¬ Fb 0 := fun hi => by have := h.nb _ hi; have := h.tab0.lt; omega
theorem Trio.made (h : OwnD w0 w a c t) (k : MadeU cellsP 52 w t (.returned (.pointer (some ⟨b, 0, none⟩))) w') : ∃ Fa Fb Fc, Trio w0 w' a b c Fa Fb Fc t t t := by
  obtain ⟨ht, hb, Fa, Fc, T, hn, hD⟩ := h
  obtain ⟨b', Fb, vi, vo, he, kb, hnb, hp⟩ := k
  injection he with he
  injection he with he
  injection he with he
  injection he with he
  subst he
  have la := hD.pa.lt
  have lc := hD.rc.lt
  exact ⟨Fa, Fb, Fc, ht, hb.trans (kb.mono hb.size), fun i hi => hn i (hD.ta i hi), fun i hi => Nat.le_trans hb.size (hnb i hi), fun i hi => hn i (hD.tc i hi), hD.pa.below kb, ⟨vi, vo, hp⟩, hD.rc.below kb,
    fun i hi hj => by have := la i hi; have := hnb i hj; omega, hD.ac, fun i hi hj => by have := lc i hj; have := hnb i hi; omega⟩
theorem Trio.turnA (h : Trio w0 w a b c Fa Fb Fc s t v) (k : EndU cellsP 52 w a Fa s' w') : ∃ Fa', Trio w0 w' a b c Fa' Fb Fc s' t v := by
  obtain ⟨o, F', hF, vi, vo, hp⟩ := k
  have lb := h.pb.lt
  have lc := h.rc.lt
  refine ⟨F', h.tab0, Below.thenOnly h.bel o h.na h.bel.size, fun i hi => ?_, h.nb, h.nc, ⟨vi, vo, hp⟩, h.pb.keeps o fun i hi hj => h.ab i hj hi, h.rc.keeps o fun i hi hj => h.ac i hj hi, fun i hi hj => ?_, fun i hi hj => ?_, h.bc⟩
  · rcases hF i hi with h1 | h1
    · exact h.na i h1
    · exact Nat.le_trans h.bel.size h1
  · rcases hF i hi with h1 | h1
    · exact h.ab i h1 hj
    · have := lb i hj; omega
  · rcases hF i hi with h1 | h1
    · exact h.ac i h1 hj
    · have := lc i hj; omega
theorem Trio.turnB (h : Trio w0 w a b c Fa Fb Fc s t v) (k : EndU cellsP 52 w b Fb t' w') : ∃ Fb', Trio w0 w' a b c Fa Fb' Fc s t' v := by
  obtain ⟨o, F', hF, vi, vo, hp⟩ := k
  have la := h.pa.lt
  have lc := h.rc.lt
  refine ⟨F', h.tab0, Below.thenOnly h.bel o h.nb h.bel.size, h.na, fun i hi => ?_, h.nc, h.pa.keeps o h.ab, ⟨vi, vo, hp⟩, h.rc.keeps o fun i hi hj => h.bc i hj hi, fun i hi hj => ?_, h.ac, fun i hi hj => ?_⟩
  · rcases hF i hi with h1 | h1
    · exact h.nb i h1
    · exact Nat.le_trans h.bel.size h1
  · rcases hF i hj with h1 | h1
    · exact h.ab i hi h1
    · have := la i hi; omega
  · rcases hF i hi with h1 | h1
    · exact h.bc i h1 hj
    · have := lc i hj; omega
theorem Trio.turnC (h : Trio w0 w a b c Fa Fb Fc s t v) (k : EndU cellsR 42 w c Fc v' w') : ∃ Fc', Trio w0 w' a b c Fa Fb Fc' s t v' := by
  obtain ⟨o, F', hF, vi, vo, hp⟩ := k
  have la := h.pa.lt
  have lb := h.pb.lt
  refine ⟨F', h.tab0, Below.thenOnly h.bel o h.nc h.bel.size, h.na, h.nb, fun i hi => ?_, h.pa.keeps o h.ac, h.pb.keeps o h.bc, ⟨vi, vo, hp⟩, h.ab, fun i hi hj => ?_, fun i hi hj => ?_⟩
  · rcases hF i hi with h1 | h1
    · exact h.nc i h1
    · exact Nat.le_trans h.bel.size h1
  · rcases hF i hj with h1 | h1
    · exact h.ac i hi h1
    · have := la i hi; omega
  · rcases hF i hj with h1 | h1
    · exact h.bc i hi h1
    · have := lb i hi; omega
/-- The old one is left behind. -/
theorem Trio.drop (h : Trio w0 w a b c Fa Fb Fc s t t) : OwnD w0 w b c t :=
  ⟨h.tab0, h.bel, Fb, Fc, fun i => Fb i ∨ Fc i, fun i hi => hi.elim (h.nb i) (h.nc i), h.pb, h.rc, h.bc, fun i hi => .inl hi, fun i hi => .inr hi, h.tab, fun hi => hi.elim h.tb fun hi => by have := h.nc _ hi; have := h.tab0.lt; omega⟩
end

/-- Two pairs of the law's own, apart. -/
structure Quad (w0 w : World) (a b c d : Nat) (Fa Fb Fc Fd T U : Nat → Prop) (t u : US) : Prop where
  tab0 : Tab w0
  bel : Below w0.heap.size w0 w
  nT : ∀ i, T i → w0.heap.size ≤ i
  nU : ∀ i, U i → w0.heap.size ≤ i
  tu : ∀ i, T i → ¬ U i
  lT : ∀ i, T i → i < w.heap.size
  lU : ∀ i, U i → i < w.heap.size
  one : Duo w a c Fa Fc T t
  two : Duo w b d Fb Fd U u
def OwnQ (w0 w : World) (a b c d : Nat) (t u : US) : Prop := ∃ Fa Fb Fc Fd T U, Quad w0 w a b c d Fa Fb Fc Fd T U t u
theorem OwnQ.swap {w0 w : World} {a b c d : Nat} {t u : US} (h : OwnQ w0 w a b c d t u) : OwnQ w0 w b a d c u t := by
  obtain ⟨Fa, Fb, Fc, Fd, T, U, h⟩ := h
  exact ⟨Fb, Fa, Fd, Fc, U, T, h.tab0, h.bel, h.nU, h.nT, fun i hi hj => h.tu i hj hi, h.lU, h.lT, h.two, h.one⟩
theorem OwnQ.bel {w0 w : World} {a b c d : Nat} {t u : US} (h : OwnQ w0 w a b c d t u) : Below w0.heap.size w0 w := by obtain ⟨Fa, Fb, Fc, Fd, T, U, h⟩ := h; exact h.bel
theorem OwnQ.both {w0 w : World} {a b c d : Nat} {t u : US} (h : OwnQ w0 w a b c d t u) (x : ActV) (r1 : In64 x.a) (r3 : In64 x.v) :
    Calls Tryd.prog 21 #[.pointer (some ⟨a, 0, none⟩), .pointer (some ⟨c, 0, none⟩), actVal x] w fun e w' => e = .returned (.bool true) ∧ OwnQ w0 w' a b c d (actT t x) u := by
  obtain ⟨Fa, Fb, Fc, Fd, T, U, h⟩ := h
  refine (both_any w a c Fa Fc T t x h.one r1 r3).mono fun e w' ⟨he, o, Fa', Fc', T', hT, hD⟩ => ⟨he, Fa', Fb, Fc', Fd, T', U, h.tab0, Below.thenOnly h.bel o h.nT h.bel.size, fun i hi => ?_, h.nU, fun i hi hj => ?_, fun i hi => (hT i hi).2, fun i hi => Nat.lt_of_lt_of_le (h.lU i hi) o.size, hD, h.two.keeps o (fun i hi hj => h.tu i hj hi) h.one.nt⟩
  · rcases (hT i hi).1 with h1 | h1
    · exact h.nT i h1
    · exact Nat.le_trans h.bel.size h1
  · rcases (hT i hi).1 with h1 | h1
    · exact h.tu i h1 hj
    · have := h.lU i hj; omega
theorem OwnQ.both2 {w0 w : World} {a b c d : Nat} {t u : US} (h : OwnQ w0 w a b c d t u) (x : ActV) (r1 : In64 x.a) (r3 : In64 x.v) :
    Calls Tryd.prog 21 #[.pointer (some ⟨b, 0, none⟩), .pointer (some ⟨d, 0, none⟩), actVal x] w fun e w' => e = .returned (.bool true) ∧ OwnQ w0 w' a b c d t (actT u x) :=
  (h.swap.both x r1 r3).mono fun e w' ⟨he, k⟩ => ⟨he, k.swap⟩
/-- Four made one behind the other. -/
theorem OwnQ.made {w0 w1 w2 w3 w4 : World} {a b c d : Nat} {Fa Fb Fc Fd : Nat → Prop} (h : OwnU w0 w1 a Fa u0) (k2 : Below w1.heap.size w1 w2) (nb : ∀ i, Fb i → w1.heap.size ≤ i) (pb : UP w2 b Fb u0) (k3 : Below w2.heap.size w2 w3) (nc : ∀ i, Fc i → w2.heap.size ≤ i) (pc : UR w3 c Fc u0)
    (k4 : Below w3.heap.size w3 w4) (nd : ∀ i, Fd i → w3.heap.size ≤ i) (pd : UR w4 d Fd u0) : OwnQ w0 w4 a b c d u0 u0 := by
  have la := h.obj.lt
  have lb := pb.lt
  have lc := pc.lt
  have ld := pd.lt
  have s1 := h.bel.size
  have s2 := k2.size
  have s3 := k3.size
  have s4 := k4.size
  have tl := h.tab0.lt
  have b4 : Below w0.heap.size w0 w4 := ((h.bel.trans (k2.mono s1)).trans (k3.mono (by omega))).trans (k4.mono (by omega))
  have pa4 : UP w4 a Fa u0 := ((h.obj.below k2).below k3).below k4
  have pb4 : UP w4 b Fb u0 := (pb.below k3).below k4
  have pc4 : UR w4 c Fc u0 := pc.below k4
  refine ⟨Fa, Fb, Fc, Fd, fun i => Fa i ∨ Fc i, fun i => Fb i ∨ Fd i, h.tab0, b4, fun i hi => ?_, fun i hi => ?_, fun i hi hj => ?_, fun i hi => ?_, fun i hi => ?_,
    ⟨pa4, pc4, fun i hi hj => ?_, fun i hi => .inl hi, fun i hi => .inr hi, h.tab0.below b4, fun hi => ?_⟩, ⟨pb4, pd, fun i hi hj => ?_, fun i hi => .inl hi, fun i hi => .inr hi, h.tab0.below b4, fun hi => ?_⟩⟩
  · rcases hi with hi | hi
    · exact h.new i hi
    · have := nc i hi; omega
  · rcases hi with hi | hi
    · have := nb i hi; omega
    · have := nd i hi; omega
  · rcases hi with hi | hi <;> rcases hj with hj | hj
    · have := la i hi; have := nb i hj; omega
    · have := la i hi; have := nd i hj; omega
    · have := nc i hi; have := lb i hj; omega
    · have := lc i hi; have := nd i hj; omega
  · rcases hi with hi | hi
    · exact pa4.lt i hi
    · exact pc4.lt i hi
  · rcases hi with hi | hi
    · exact pb4.lt i hi
    · exact pd.lt i hi
  · have := la i hi; have := nc i hj; omega
  · rcases hi with hi | hi
    · have := h.new _ hi; omega
    · have := nc _ hi; omega
  · have := lb i hi; have := nd i hj; omega
  · rcases hi with hi | hi
    · have := nb _ hi; omega
    · have := nd _ hi; omega
theorem OwnQ.parts {w0 w : World} {a b c d : Nat} {t u : US} (h : OwnQ w0 w a b c d t u) : ∃ Fa Fb Fc Fd, UP w a Fa t ∧ UP w b Fb u ∧ UR w c Fc t ∧ UR w d Fd u := by
  obtain ⟨Fa, Fb, Fc, Fd, T, U, h⟩ := h; exact ⟨Fa, Fb, Fc, Fd, h.one.pa, h.two.pa, h.one.rc, h.two.rc⟩
theorem sameU_refl (t : US) : sameU t t = true := by unfold sameU regEq; simp

end Go.Proofs.YtcbjfkbmbjmnbaaDoor
