/- Joined: BuV BuActs BuW PlEq7 Uq RfJ RfK RfL BuX RfM -/
import Derived.Test.YtbcnkhfpogglmaaGreatDoorKS5
import Derived.Test.YtbcnkhfpogglmaaGreatDoorRows
import Derived.Laws.BytesArg
import Derived.Deep.Slices
import Derived.Deep.Fields
import Derived.ChangeSame
import Derived.WalkKit
import Derived.ProofKit
import Derived.Below
import Derived.Laws.Tables
import Derived.Laws.StructEq
namespace Go.Proofs.YtbcnkhfpogglmaaGreatDoor
open Go.RowKit
set_option linter.unusedVariables false
set_option maxRecDepth 100000

/-- The program's bus b says st, the document's d says su, apart, in blocks of F. -/
def Two (w : World) (F : Nat → Prop) (b d : Nat) (N : Nat) (st su : BS) : Prop :=
  ∃ g K vp ul h L vq um, BusP w b K g vp ul st ∧ BusR w d L h vq um N su ∧ (∀ i, ¬ K i = 0 → L i = 0) ∧ (∀ i, TabB i → ¬ F i) ∧ (∀ i, (¬ K i = 0 ∨ ¬ L i = 0) → F i) ∧ (∀ i, F i → i < w.heap.size)
def NewF (w w' : World) (F F' : Nat → Prop) : Prop := Only F w w' ∧ ∀ i, F' i → F i ∨ w.heap.size ≤ i
theorem NewF.same {w w' : World} (F : Nat → Prop) (h : Below w.heap.size w w') : NewF w w' F F := ⟨Only.of_below F h, fun _ => .inl⟩
theorem NewF.refl (w : World) (F : Nat → Prop) : NewF w w F F := ⟨Only.refl F w, fun _ => .inl⟩
theorem NewF.trans {w w1 w2 : World} {F F1 F2 : Nat → Prop} (h : NewF w w1 F F1) (k : NewF w1 w2 F1 F2) : NewF w w2 F F2 :=
  ⟨h.1.step k.1 h.2, fun i hi => by
    rcases k.2 i hi with a | a
    · exact h.2 i a
    · right; have := h.1.size; omega⟩
/-- What a call tells, and leaves of both. -/
def TellT (w : World) (F : Nat → Prop) (b d : Nat) (N : Nat) (r : Value) (st su : BS) (e : Ending) (w' : World) : Prop := e = .returned r ∧ ∃ F', NewF w w' F F' ∧ Two w' F' b d N st su
section
variable {w w' : World} {F : Nat → Prop} {b d N : Nat} {st su : BS}
theorem Two.below (h : Two w F b d N st su) (o : Below w.heap.size w w') : Two w' F b d N st su := by
  obtain ⟨g, K, vp, ul, h, L, vq, um, P, R, ap, tb, cov, lt⟩ := h
  exact ⟨g, K, vp, ul, h, L, vq, um, P.below o, R.below o, ap, tb, cov, fun i hi => Nat.lt_of_lt_of_le (lt i hi) o.size⟩
theorem Two.keeps {G : Nat → Prop} (h : Two w F b d N st su) (o : Only G w w') (hG : ∀ i, F i ∨ TabB i → ¬ G i) : Two w' F b d N st su := by
  obtain ⟨g, K, vp, ul, h, L, vq, um, P, R, ap, tb, cov, lt⟩ := h
  refine ⟨g, K, vp, ul, h, L, vq, um, P.keeps o fun i hi => hG i ?_, R.keeps o fun i hi => hG i (.inl (cov i (.inr hi))), ap, tb, cov, fun i hi => Nat.lt_of_lt_of_le (lt i hi) o.size⟩
  rcases hi with a | a
  · exact .inl (cov i (.inl a))
  · exact .inr a
theorem Two.lt (h : Two w F b d N st su) : ∀ i, F i → i < w.heap.size := by
  obtain ⟨g, K, vp, ul, h, L, vq, um, P, R, ap, tb, cov, lt⟩ := h
  exact lt
theorem Two.tab (h : Two w F b d N st su) : ∀ i, TabB i → ¬ F i := by
  obtain ⟨g, K, vp, ul, h, L, vq, um, P, R, ap, tb, cov, lt⟩ := h
  exact tb
theorem Two.tabs (h : Two w F b d N st su) : Tabs w := by
  obtain ⟨g, K, vp, ul, h, L, vq, um, P, R, ap, tb, cov, lt⟩ := h
  exact P.tabs
theorem Two.more {N' : Nat} (h : Two w F b d N st su) (hN : N ≤ N') : Two w F b d N' st su := by
  obtain ⟨g, K, vp, ul, h, L, vq, um, P, R, ap, tb, cov, lt⟩ := h
  exact ⟨g, K, vp, ul, h, L, vq, um, P, R.more hN, ap, tb, cov, lt⟩
theorem two_ofProg (H : Two w F b d N st su) {r : Value} {st' : BS} {e : Ending} (hc : ∀ g K vp ul, BusP w b K g vp ul st → BusEnd w b K g vp ul r st' e w') : TellT w F b d N r st' su e w' := by
  obtain ⟨g, K, vp, ul, h, L, vq, um, P, R, ap, tb, cov, lt⟩ := H
  obtain ⟨he, ho, K', hg, hp⟩ := hc g K vp ul P
  refine ⟨he, fun i => F i ∨ ¬ K' i = 0, ⟨ho.mono fun i hi => .inl (cov i (.inl hi)), fun i hi => ?_⟩, g, K', vp, ul, h, L, vq, um, hp, R.keeps ho fun i hl hk => hl (ap i hk), fun i hi => ?_, fun i hi hx => ?_, fun i hi => ?_, fun i hi => ?_⟩
  · rcases hi with a | a
    · exact .inl a
    · by_cases c : i < w.heap.size
      · rw [hg i c] at a; exact .inl (cov i (.inl a))
      · right; omega
  · by_cases c : i < w.heap.size
    · rw [hg i c] at hi; exact ap i hi
    · by_cases z : L i = 0
      · exact z
      · exact absurd (R.lt i z) c
  · rcases hx with a | a
    · exact tb i hi a
    · exact a (hp.kt i hi)
  · rcases hi with a | a
    · exact .inr a
    · exact .inl (cov i (.inr a))
  · rcases hi with a | a
    · exact Nat.lt_of_lt_of_le (lt i a) ho.size
    · exact hp.lt i a
theorem two_prog (H : Two w F b d N st su) {r : Value} {st' : BS} {f : FuncId} {args : Array Value} (hc : ∀ g K vp ul, BusP w b K g vp ul st → Calls Tryz.prog f args w (BusEnd w b K g vp ul r st')) : Calls Tryz.prog f args w (TellT w F b d N r st' su) := by
  have H' := H
  obtain ⟨g, K, vp, ul, h, L, vq, um, P, R, ap, tb, cov, lt⟩ := H
  refine (hc g K vp ul P).mono fun e w' k => ?_
  obtain ⟨he, ho, K', hg, hp⟩ := k
  refine ⟨he, fun i => F i ∨ ¬ K' i = 0, ⟨ho.mono fun i hi => .inl (cov i (.inl hi)), fun i hi => ?_⟩, g, K', vp, ul, h, L, vq, um, hp, R.keeps ho fun i hl hk => hl (ap i hk), fun i hi => ?_, fun i hi hx => ?_, fun i hi => ?_, fun i hi => ?_⟩
  · rcases hi with a | a
    · exact .inl a
    · by_cases c : i < w.heap.size
      · rw [hg i c] at a; exact .inl (cov i (.inl a))
      · right; omega
  · by_cases c : i < w.heap.size
    · rw [hg i c] at hi; exact ap i hi
    · by_cases z : L i = 0
      · exact z
      · exact absurd (R.lt i z) c
  · rcases hx with a | a
    · exact tb i hi a
    · exact a (hp.kt i hi)
  · rcases hi with a | a
    · exact .inr a
    · exact .inl (cov i (.inr a))
  · rcases hi with a | a
    · exact Nat.lt_of_lt_of_le (lt i a) ho.size
    · exact hp.lt i a
theorem two_ref {N' : Nat} (H : Two w F b d N st su) {r : Value} {su' : BS} {f : FuncId} {args : Array Value} (hc : ∀ h L vq um, BusR w d L h vq um N su → Calls Tryz.prog f args w (RefBE w d L h vq um N' r su')) : Calls Tryz.prog f args w (TellT w F b d N' r st su') := by
  obtain ⟨g, K, vp, ul, h, L, vq, um, P, R, ap, tb, cov, lt⟩ := H
  refine (hc h L vq um R).mono fun e w' k => ?_
  obtain ⟨he, ho, L', hg, hp⟩ := k
  refine ⟨he, fun i => F i ∨ ¬ L' i = 0, ⟨ho.mono fun i hi => .inl (cov i (.inr hi)), fun i hi => ?_⟩, g, K, vp, ul, h, L', vq, um, P.keeps ho fun i hi hl => ?_, hp, fun i hi => ?_, fun i hi hx => ?_, fun i hi => ?_, fun i hi => ?_⟩
  · rcases hi with a | a
    · exact .inl a
    · by_cases c : i < w.heap.size
      · rw [hg i c] at a; exact .inl (cov i (.inr a))
      · right; omega
  · rcases hi with a | a
    · exact hl (ap i a)
    · exact tb i a (cov i (.inr hl))
  · have c := P.lt i hi
    rw [hg i c]; exact ap i hi
  · rcases hx with a | a
    · exact tb i hi a
    · have c : i < w.heap.size := P.tabs.lt hi
      rw [hg i c] at a; exact tb i hi (cov i (.inr a))
  · rcases hi with a | a
    · exact .inl (cov i (.inl a))
    · exact .inr a
  · rcases hi with a | a
    · exact Nat.lt_of_lt_of_le (lt i a) ho.size
    · exact hp.lt i a

theorem two_ofRef {N' : Nat} (H : Two w F b d N st su) {r : Value} {su' : BS} {e : Ending} {g h : Nat} {K L : Nat → Nat} {vp vq : Value} {ul um : List Nat} (X : BusP w b K g vp ul st ∧ BusR w d L h vq um N su ∧ (∀ i, ¬ K i = 0 → L i = 0) ∧ (∀ i, (¬ K i = 0 ∨ ¬ L i = 0) → F i)) (k : RefBE w d L h vq um N' r su' e w') : TellT w F b d N' r st su' e w' := by
  have tb := H.tab
  have lt := H.lt
  obtain ⟨P, R, ap, cov⟩ := X
  obtain ⟨he, ho, L', hg, hp⟩ := k
  refine ⟨he, fun i => F i ∨ ¬ L' i = 0, ⟨ho.mono fun i hi => .inl (cov i (.inr hi)), fun i hi => ?_⟩, g, K, vp, ul, h, L', vq, um, P.keeps ho fun i hi hl => ?_, hp, fun i hi => ?_, fun i hi hx => ?_, fun i hi => ?_, fun i hi => ?_⟩
  · rcases hi with a | a
    · exact .inl a
    · by_cases c : i < w.heap.size
      · rw [hg i c] at a; exact .inl (cov i (.inr a))
      · right; omega
  · rcases hi with a | a
    · exact hl (ap i a)
    · exact tb i a (cov i (.inr hl))
  · have c := P.lt i hi
    rw [hg i c]; exact ap i hi
  · rcases hx with a | a
    · exact tb i hi a
    · have c : i < w.heap.size := P.tabs.lt hi
      rw [hg i c] at a; exact tb i hi (cov i (.inr a))
  · rcases hi with a | a
    · exact .inl (cov i (.inl a))
    · exact .inr a
  · rcases hi with a | a
    · exact Nat.lt_of_lt_of_le (lt i a) ho.size
    · exact hp.lt i a
theorem only_cell7 {S : Nat → Prop} {w w' : World} (k : Only S w w') {b o : Nat} (hn : ¬ S b) {v : Value} (h : w.cell? ⟨b, o, none⟩ = some v) : w'.cell? ⟨b, o, none⟩ = some v := by
  have hl : b < w.heap.size := World.block_lt_of_cell? _ _ h
  have e := k.block b hl hn
  unfold World.cell? at *
  simp only [e] at *
  exact h

/-! ### the calls -/
theorem tWrite (H : Two w F b d N st su) (a n v : Int) (ha : In64 a) (hv : In64 v) : Calls Tryz.prog 9 #[.pointer (some ⟨b, 0, none⟩), .int .u64 a, .int .i64 n, .int .u64 v] w (TellT w F b d N (.bool (busWr st a n v).1) (busWr st a n v).2 su) :=
  two_prog H fun g K vp ul P => busWrite_any P a n v ha hv
theorem tRead (H : Two w F b d N st su) (a n : Int) (ha : In64 a) : Calls Tryz.prog 8 #[.pointer (some ⟨b, 0, none⟩), .int .u64 a, .int .i64 n] w (TellT w F b d N (.tuple #[.int .u64 (busRd st a n).1, .bool (busRd st a n).2.1]) (busRd st a n).2.2 su) :=
  two_prog H fun g K vp ul P => busRead_any P a n ha
theorem tFeed (H : Two w F b d N st su) (i x : Int) (hx : 0 ≤ x ∧ x < 256) : Calls Tryz.prog 13 #[.pointer (some ⟨b, 0, none⟩), .int .i64 i, .int .u8 x] w (TellT w F b d N (.bool (busFd st i x).1) (busFd st i x).2 su) :=
  two_prog H fun g K vp ul P => busFeed_any P i x hx
theorem tLevel (H : Two w F b d N st su) (s : Int) (u : Bool) (hs : In63 s) : Calls Tryz.prog 14 #[.pointer (some ⟨b, 0, none⟩), .int .i64 s, .bool u] w (TellT w F b d N (.bool (busLv st s u).1) (busLv st s u).2 su) :=
  two_prog H fun g K vp ul P => busLevel_any P s u hs
def TellU (w : World) (F : Nat → Prop) (b d : Nat) (N : Nat) (st su : BS) (e : Ending) (w' : World) : Prop := ∃ r, TellT w F b d N r st su e w'
theorem tTick (H : Two w F b d N st su) (n : Int) (hn : In64 n) : Calls Tryz.prog 11 #[.pointer (some ⟨b, 0, none⟩), .int .u64 n] w (TellU w F b d N (busTk st n) su) := by
  have H' := H
  obtain ⟨g, K, vp, ul, h, L, vq, um, P, R, ap, tb, cov, lt⟩ := H
  refine (busTick_any P n hn).mono fun e w' k => ?_
  obtain ⟨u, he, ho, K', hg, hp⟩ := k
  refine ⟨u, he, fun i => F i ∨ ¬ K' i = 0, ⟨ho.mono fun i hi => .inl (cov i (.inl hi)), fun i hi => ?_⟩, g, K', vp, ul, h, L, vq, um, hp, R.keeps ho fun i hl hk => hl (ap i hk), fun i hi => ?_, fun i hi hx => ?_, fun i hi => ?_, fun i hi => ?_⟩
  · rcases hi with a | a
    · exact .inl a
    · by_cases c : i < w.heap.size
      · rw [hg i c] at a; exact .inl (cov i (.inl a))
      · right; omega
  · by_cases c : i < w.heap.size
    · rw [hg i c] at hi; exact ap i hi
    · by_cases z : L i = 0
      · exact z
      · exact absurd (R.lt i z) c
  · rcases hx with a | a
    · exact tb i hi a
    · exact a (hp.kt i hi)
  · rcases hi with a | a
    · exact .inr a
    · exact .inl (cov i (.inr a))
  · rcases hi with a | a
    · exact Nat.lt_of_lt_of_le (lt i a) ho.size
    · exact hp.lt i a
theorem tIsRam (H : Two w F b d N st su) (a n : Int) (ha : In64 a) : Calls Tryz.prog 10 #[.pointer (some ⟨b, 0, none⟩), .int .u64 a, .int .i64 n] w (IsRamE w (M3.okN n && M3.hasZ 2147483648 st.size a n)) := by
  obtain ⟨g, K, vp, ul, h, L, vq, um, P, R, ap, tb, cov, lt⟩ := H
  exact busIsRam_any P a n ha
theorem tOut (H : Two w F b d N st su) (i : Int) : Calls Tryz.prog 17 #[.pointer (some ⟨b, 0, none⟩), .int .i64 i] w (OutE w (busOt st.us i)) := by
  obtain ⟨g, K, vp, ul, h, L, vq, um, P, R, ap, tb, cov, lt⟩ := H
  exact busOut_any P i
theorem rWrite (H : Two w F b d N st su) (a n v : Int) (ha : In64 a) (hv : In64 v) (hN : N < 900000) : Calls Tryz.prog 55 #[.pointer (some ⟨d, 0, none⟩), .int .u64 a, .int .i64 n, .int .u64 v] w (TellT w F b d (N + 8) (.bool (busWr su a n v).1) st (busWr su a n v).2) :=
  two_ref H fun h L vq um R => refWrite7_any R a n v ha hv hN
theorem rRead (H : Two w F b d N st su) (a n : Int) (ha : In64 a) : Calls Tryz.prog 56 #[.pointer (some ⟨d, 0, none⟩), .int .u64 a, .int .i64 n] w (TellT w F b d N (.tuple #[.int .u64 (busRd su a n).1, .bool (busRd su a n).2.1]) st (busRd su a n).2.2) :=
  two_ref H fun h L vq um R => refRead7_any R a n ha
theorem rFeed (H : Two w F b d N st su) (i x : Int) (hx : 0 ≤ x ∧ x < 256) : Calls Tryz.prog 57 #[.pointer (some ⟨d, 0, none⟩), .int .i64 i, .int .u8 x] w (TellT w F b d N (.bool (busFd su i x).1) st (busFd su i x).2) :=
  two_ref H fun h L vq um R => refFeed7_any R i x hx
theorem rLevel (H : Two w F b d N st su) (s : Int) (u : Bool) : Calls Tryz.prog 58 #[.pointer (some ⟨d, 0, none⟩), .int .i64 s, .bool u] w (TellT w F b d N (.bool (busLv su s u).1) st (busLv su s u).2) :=
  two_ref H fun h L vq um R => refLevel7_any R s u
theorem rTick (H : Two w F b d N st su) (n : Int) (hn : In64 n) : Calls Tryz.prog 59 #[.pointer (some ⟨d, 0, none⟩), .int .u64 n] w (TellU w F b d N st (busTk su n)) := by
  obtain ⟨g, K, vp, ul, h, L, vq, um, P, R, ap, tb, cov, lt⟩ := H
  refine (refTick7_any R n hn).mono fun e w' k => ?_
  obtain ⟨u, he, ho, L', hg, hp⟩ := k
  refine ⟨u, he, fun i => F i ∨ ¬ L' i = 0, ⟨ho.mono fun i hi => .inl (cov i (.inr hi)), fun i hi => ?_⟩, g, K, vp, ul, h, L', vq, um, P.keeps ho fun i hi hl => ?_, hp, fun i hi => ?_, fun i hi hx => ?_, fun i hi => ?_, fun i hi => ?_⟩
  · rcases hi with a | a
    · exact .inl a
    · by_cases c : i < w.heap.size
      · rw [hg i c] at a; exact .inl (cov i (.inr a))
      · right; omega
  · rcases hi with a | a
    · exact hl (ap i a)
    · exact tb i a (cov i (.inr hl))
  · have c := P.lt i hi
    rw [hg i c]; exact ap i hi
  · rcases hx with a | a
    · exact tb i hi a
    · have c : i < w.heap.size := P.tabs.lt hi
      rw [hg i c] at a; exact tb i hi (cov i (.inr a))
  · rcases hi with a | a
    · exact .inl (cov i (.inl a))
    · exact .inr a
  · rcases hi with a | a
    · exact Nat.lt_of_lt_of_le (lt i a) ho.size
    · exact hp.lt i a
theorem rIsRam (H : Two w F b d N st su) (a n : Int) (ha : In64 a) : Calls Tryz.prog 60 #[.pointer (some ⟨d, 0, none⟩), .int .u64 a, .int .i64 n] w (IsRamE w (M3.okN n && M3.hasZ 2147483648 su.size a n)) := by
  obtain ⟨g, K, vp, ul, h, L, vq, um, P, R, ap, tb, cov, lt⟩ := H
  exact refIsRam7_any R a n ha
theorem rOut (H : Two w F b d N st su) (i : Int) : Calls Tryz.prog 23 #[.pointer (some ⟨d, 0, none⟩), .int .i64 i] w (OutE w (busOt su.us i)) := by
  obtain ⟨g, K, vp, ul, h, L, vq, um, P, R, ap, tb, cov, lt⟩ := H
  exact refOut7_any R i
/-- The memories themselves: where they lie, and a write into them. -/
def memS (st : BS) (a n v : Int) : BS := { st with m := M3.writeM 2147483648 st.size st.m a n v }
theorem tRam (H : Two w F b d N st su) : ∃ g, Calls Tryz.prog 16 #[.pointer (some ⟨b, 0, none⟩)] w (fun e w' => e = .returned (.pointer (some ⟨g, 0, none⟩)) ∧ w = w') ∧
    ∀ a n v, In64 a → In63 n → In64 v → Calls Tryz.prog 26 #[.pointer (some ⟨g, 0, none⟩), .int .u64 a, .int .i64 n, .int .u64 v] w (TellT w F b d N (.bool (M3.okN n && M3.hasZ 2147483648 st.size a n)) (memS st a n v) su) := by
  have H' := H
  obtain ⟨g, K, vp, ul, h, L, vq, um, P, R, ap, tb, cov, lt⟩ := H
  refine ⟨g, busRam_any P, fun a n v ha hn hv => (M3.progWrite_any a n v P.mem P.fits ha hn hv).mono fun e w' k => ?_⟩
  have e1 := P.memEnd k
  obtain ⟨he, ho, K', hg, hp⟩ := e1
  refine ⟨he, fun i => F i ∨ ¬ K' i = 0, ⟨ho.mono fun i hi => .inl (cov i (.inl hi)), fun i hi => ?_⟩, g, K', vp, ul, h, L, vq, um, hp, R.keeps ho fun i hl hk => hl (ap i hk), fun i hi => ?_, fun i hi hx => ?_, fun i hi => ?_, fun i hi => ?_⟩
  · rcases hi with a | a
    · exact .inl a
    · by_cases c : i < w.heap.size
      · rw [hg i c] at a; exact .inl (cov i (.inl a))
      · right; omega
  · by_cases c : i < w.heap.size
    · rw [hg i c] at hi; exact ap i hi
    · by_cases z : L i = 0
      · exact z
      · exact absurd (R.lt i z) c
  · rcases hx with a | a
    · exact tb i hi a
    · exact a (hp.kt i hi)
  · rcases hi with a | a
    · exact .inr a
    · exact .inl (cov i (.inr a))
  · rcases hi with a | a
    · exact Nat.lt_of_lt_of_le (lt i a) ho.size
    · exact hp.lt i a
theorem rRam (H : Two w F b d N st su) (hN : N < 900000) : ∃ h, w.cell? ⟨d, 0, none⟩ = some (.pointer (some ⟨h, 0, none⟩)) ∧
    ∀ a n v, In64 a → In64 v → Calls Tryz.prog 61 #[.pointer (some ⟨h, 0, none⟩), .int .u64 a, .int .i64 n, .int .u64 v] w (fun e w' => TellT w F b d (N + 8) (.bool (M3.okN n && M3.hasZ 2147483648 su.size a n)) st (memS su a n v) e w' ∧ w'.cell? ⟨d, 0, none⟩ = some (.pointer (some ⟨h, 0, none⟩))) := by
  have H' := H
  obtain ⟨g, K, vp, ul, h, L, vq, um, P, R, ap, tb, cov, lt⟩ := H
  refine ⟨h, R.obj.ram_, fun a n v ha hv => ?_⟩
  obtain ⟨hg, gl, hl, hm⟩ := R.mem
  refine (M3.mem_write w h gl _ _ N _ _ n v hm R.fits ha hv hN).mono fun e w'' k => ?_
  refine ⟨two_ofRef H' (h := h) (L := L) (vq := vq) (um := um) ⟨P, R, ap, cov⟩ ?_, ?_⟩
  rotate_left
  · obtain ⟨he, o0, _⟩ := k
    have hd1 := R.kb
    have hne : ¬ d = h := fun e => by rw [e, hg] at hd1; omega
    exact only_cell7 o0 hne R.obj.ram_
  obtain ⟨he, o0, g', hg', hR⟩ := k
  obtain ⟨g2, hg2, hlt2, hR⟩ := M3.RefMem.norm hR
  have o : Only (fun i => L i = 2) w w'' := o0.mono fun i hi => .inl (by subst hi; exact hg)
  refine ⟨he, o.mono fun i hi => .inl (by show ¬ L i = 0; have : L i = 2 := hi; omega), _, relabel_grow w L 2 w'', R.part (by omega) o rfl rfl rfl rfl ⟨relabel_old R.lt (by omega) hg, g2, ?_, hR⟩ fun i hi => ?_⟩
  · rcases hg2 with rfl | rfl
    · rcases hg' with rfl | hg'
      · exact relabel_old R.lt (by omega) hl
      · exact relabel_new (.inr hg') hlt2
    · exact relabel_old R.lt (by omega) hg
  · exact ((R.uart i hi).keeps o fun x hx => by show ¬ L x = 2; have : L x = 3 + i := hx; omega).mono (fun x hx => relabel_old R.lt (by omega) hx) fun x hx => relabel_in R.lt o.size (by omega) hx
end
end Go.Proofs.YtbcnkhfpogglmaaGreatDoor

namespace Go.Proofs.YtbcnkhfpogglmaaGreatDoor
open Go.RowKit Go.ChangeShapes Go.WideShapes Go.Deep
set_option linter.unusedVariables false
set_option maxRecDepth 100000

section
variable {H : Type} {enc : TypeId × Value → H} {P : Program} {w : World} {base : Nat} {spare : Nat → Bool} {held : Bool}
/-- The cells of a struct whose fields are one cell each, and each field's reading. -/
theorem fields_of {t : TypeId} {fs : Array Field} {n : Nat} {cs : List Value} {x : DataW H × List MemPlace} (hs : P.underlying t = some (.struct fs)) (hone : oneCellFields P fs = true) (hC : P.cellsOf t = fs.size)
    (h : DataW.trod enc P w base spare held n t cs = some x) : cs.length = fs.size ∧ ∀ (j : Nat) (f : Field), fs[j]? = some f → ∃ v y k, cs[j]? = some v ∧ DataW.trod enc P w base spare held k f.type [v] = some y := by
  obtain ⟨xs, k, _, _, hl, hlen, hf⟩ := DataW.trod_struct hs h
  refine ⟨hl.trans hC, fun j f hj => ?_⟩
  obtain ⟨ho, hc⟩ := hone_of hone j f hj
  have hjs : j < fs.size := (Array.getElem?_eq_some_iff.1 hj).1
  have hjl : j < cs.length := by omega
  have hjx : j < xs.length := by omega
  have h1 := hf j f hj
  rw [ho, hc, List.drop_eq_getElem_cons hjl, List.take_succ_cons, List.take_zero, List.getElem?_eq_getElem hjx] at h1
  exact ⟨_, _, k, List.getElem?_eq_getElem hjl, h1⟩
end
theorem block_lt {w : World} {p : Addr} {v : Value} (h : w.cell? p = some v) : p.block < w.heap.size := by
  by_cases hb : p.block < w.heap.size
  · exact hb
  · have hn : w.heap[p.block]? = none := by simp; omega
    simp [World.cell?, hn] at h

/-- An act, as the program's data tell it. -/
structure ActV where
  d : Int
  a : Int
  n : Int
  v : Int
  i : Int
/-- The act that stands in cells from an address on. -/
def ActAt (w : World) (ad : Addr) (x : ActV) : Prop :=
  w.cell? (ad.add 0) = some (.int .i64 x.d) ∧ w.cell? (ad.add 1) = some (.int .u64 x.a) ∧ w.cell? (ad.add 2) = some (.int .i64 x.n) ∧ w.cell? (ad.add 3) = some (.int .u64 x.v) ∧ w.cell? (ad.add 4) = some (.int .i64 x.i) ∧ In63 x.d ∧ In64 x.a ∧ In63 x.n ∧ In64 x.v ∧ In63 x.i
/-- The acts that stand there, in a block below B. -/
def ActsIn (B : Nat) (w : World) (v : Value) (xs : List ActV) : Prop :=
  ∃ a c, v = .slice a xs.length c ∧ xs.length ≤ maxLen ∧ (xs = [] ∨ ∃ b off, a = some ⟨b, off, none⟩ ∧ b < B ∧ ∀ i (h : i < xs.length), ActAt w ⟨b, off + i * 5, none⟩ xs[i])
theorem ActAt.below {B : Nat} {w w' : World} {b off : Nat} {x : ActV} (h : ActAt w ⟨b, off, none⟩ x) (k : Below B w w') (hb : b < B) : ActAt w' ⟨b, off, none⟩ x := by
  unfold ActAt at *
  simp only [add_none] at *
  obtain ⟨h0, h1, h2, h3, h4, hr⟩ := h
  exact ⟨(k.cell (p := ⟨b, off + 0, none⟩) hb).trans h0, (k.cell (p := ⟨b, off + 1, none⟩) hb).trans h1, (k.cell (p := ⟨b, off + 2, none⟩) hb).trans h2, (k.cell (p := ⟨b, off + 3, none⟩) hb).trans h3, (k.cell (p := ⟨b, off + 4, none⟩) hb).trans h4, hr⟩
theorem ActsIn.below {B : Nat} {w w' : World} {v : Value} {xs : List ActV} (h : ActsIn B w v xs) (k : Below B w w') : ActsIn B w' v xs := by
  obtain ⟨a, c, hv, hm, h⟩ := h
  refine ⟨a, c, hv, hm, ?_⟩
  rcases h with h | ⟨b, off, ha, hb, hc⟩
  · exact .inl h
  · exact .inr ⟨b, off, ha, hb, fun i hi => (hc i hi).below k hb⟩
/-- The cells of the k-th act, and its ranges. -/
theorem act_at {w : World} {b off : Nat} {x : ActV} (h : ActAt w ⟨b, off, none⟩ x) : w.cell? ⟨b, off, none⟩ = some (.int .i64 x.d) ∧ w.cell? ⟨b, off + 1, none⟩ = some (.int .u64 x.a) ∧ w.cell? ⟨b, off + 2, none⟩ = some (.int .i64 x.n) ∧ w.cell? ⟨b, off + 3, none⟩ = some (.int .u64 x.v) ∧ w.cell? ⟨b, off + 4, none⟩ = some (.int .i64 x.i) ∧ In63 x.d ∧ In64 x.a ∧ In63 x.n ∧ In64 x.v ∧ In63 x.i := by
  unfold ActAt at h
  simp only [add_none, Nat.add_zero] at h
  exact h

theorem open_acts {H : Type} {enc : TypeId × Value → H} {w : World} {spare : Nat → Bool} {held : Bool} {d : DataW H} {p : List MemPlace} {a : Option Addr} {len cap : Nat}
    (h : DataW.Trod enc Tryz.prog w 0 spare held 44 (.slice a len cap) d p) : ∃ xs, ActsIn w.heap.size w (.slice a len cap) xs := by
  obtain ⟨fuel, hf⟩ := h
  rcases open_slice Tryz.underlying44 hf with ⟨hcs, _⟩ | ⟨x, l, c, m, n, D, Pl, hcs, _, hl, hm, hmm, hD, hi⟩
  · simp [Value.cells] at hcs
    obtain ⟨rfl, rfl, rfl⟩ := hcs
    exact ⟨[], _, _, rfl, Nat.zero_le _, .inl rfl⟩
  · simp [Value.cells] at hcs
    obtain ⟨rfl, rfl, rfl⟩ := hcs
    have hlm : len ≤ m := by rw [hmm]; split <;> omega
    have hC : Tryz.prog.cellsOf 50 = 5 := by kernel_rfl
    rw [hC] at hi
    by_cases h0 : len = 0
    · subst h0; exact ⟨[], _, _, rfl, Nat.zero_le _, .inl rfl⟩
    have hplain : ∃ b off, x = ⟨b, off, none⟩ := by
      obtain ⟨cs', hc, htr⟩ := hi 0 (by omega)
      obtain ⟨_, hcl, hat⟩ := World.cells?_some hc
      obtain ⟨v0, y0, k0, hv0, _⟩ := (fields_of Tryz.underlying50 (by kernel_rfl) (by kernel_rfl) htr).2 0 _ rfl
      obtain ⟨b, off, spot⟩ := x
      have h1 := (hat 0 (by omega)).trans hv0
      have hspot : spot = none := by simpa [Addr.add] using World.cell?_spot h1
      subst hspot
      exact ⟨b, off, rfl⟩
    obtain ⟨b, off, rfl⟩ := hplain
    have each : ∀ i, i < len → ∃ xa : ActV, ActAt w ⟨b, off + i * 5, none⟩ xa := by
      intro i hil
      obtain ⟨cs', hc, htr⟩ := hi i (by omega)
      obtain ⟨_, hcl, hat⟩ := World.cells?_some hc
      obtain ⟨_, hfs⟩ := fields_of Tryz.underlying50 (by kernel_rfl) (by kernel_rfl) htr
      obtain ⟨v0, y0, k0, hv0, t0⟩ := hfs 0 _ rfl
      obtain ⟨v1, y1, k1, hv1, t1⟩ := hfs 1 _ rfl
      obtain ⟨v2, y2, k2, hv2, t2⟩ := hfs 2 _ rfl
      obtain ⟨v3, y3, k3, hv3, t3⟩ := hfs 3 _ rfl
      obtain ⟨v4, y4, k4, hv4, t4⟩ := hfs 4 _ rfl
      obtain ⟨n0, e0, _, w0⟩ := DataW.trod_int Tryz.underlying3 t0
      obtain ⟨n1, e1, _, w1⟩ := DataW.trod_int Tryz.underlying26 t1
      obtain ⟨n2, e2, _, w2⟩ := DataW.trod_int Tryz.underlying3 t2
      obtain ⟨n3, e3, _, w3⟩ := DataW.trod_int Tryz.underlying26 t3
      obtain ⟨n4, e4, _, w4⟩ := DataW.trod_int Tryz.underlying3 t4
      simp at e0 e1 e2 e3 e4
      subst e0 e1 e2 e3 e4
      have ha : (⟨b, off, none⟩ : Addr).add (i * 5) = ⟨b, off + i * 5, none⟩ := add_none b off (i * 5)
      rw [ha] at hat
      exact ⟨⟨n0, n1, n2, n3, n4⟩, (hat 0 (by omega)).trans hv0, (hat 1 (by omega)).trans hv1, (hat 2 (by omega)).trans hv2, (hat 3 (by omega)).trans hv3, (hat 4 (by omega)).trans hv4, of_wf63 w0, of_wf w1, of_wf63 w2, of_wf w3, of_wf63 w4⟩
    have hb : b < w.heap.size := by
      obtain ⟨xa, h1, _⟩ := each 0 (by omega)
      have := block_lt h1
      simpa [add_none] using this
    refine ⟨(List.range len).map fun i => if h : i < len then Classical.choose (each i h) else ⟨0, 0, 0, 0, 0⟩, _, cap, by simp, by simp; omega, .inr ⟨b, off, rfl, hb, fun i hil => ?_⟩⟩
    have hil2 : i < len := by simpa using hil
    have hs := Classical.choose_spec (each i hil2)
    simpa [hil2] using hs

end Go.Proofs.YtbcnkhfpogglmaaGreatDoor

namespace Go.Proofs.YtbcnkhfpogglmaaGreatDoor
open Go.RowKit
set_option linter.unusedVariables false
set_option maxRecDepth 100000

/-- The act's box. -/
def BoxA (w : World) (q : Nat) (x : ActV) : Prop := w.heap[q]? = some (.cells #[.int .i64 x.d, .int .u64 x.a, .int .i64 x.n, .int .u64 x.v, .int .i64 x.i] 50 (0, 0))
theorem BoxA.cells {w : World} {q : Nat} {x : ActV} (h : BoxA w q x) : w.cell? ⟨q, 0, none⟩ = some (.int .i64 x.d) ∧ w.cell? ⟨q, 1, none⟩ = some (.int .u64 x.a) ∧ w.cell? ⟨q, 2, none⟩ = some (.int .i64 x.n) ∧ w.cell? ⟨q, 3, none⟩ = some (.int .u64 x.v) ∧ w.cell? ⟨q, 4, none⟩ = some (.int .i64 x.i) := by
  refine ⟨?_, ?_, ?_, ?_, ?_⟩ <;> (rw [cell_of_row w q _ _ _ _ h]; rfl)
theorem BoxA.lt {w : World} {q : Nat} {x : ActV} (h : BoxA w q x) : q < w.heap.size := (Array.getElem?_eq_some_iff.1 h).1
theorem BoxA.keeps {w w' : World} {q : Nat} {x : ActV} {S : Nat → Prop} (h : BoxA w q x) (o : Only S w w') (hq : ¬ S q) : BoxA w' q x := Only.keeps o hq h
theorem BoxA.below {w w' : World} {q : Nat} {x : ActV} (h : BoxA w q x) (o : Below w.heap.size w w') : BoxA w' q x := (o.block q h.lt).trans h
abbrev actV (x : ActV) : Value := .agg #[.int .i64 x.d, .int .u64 x.a, .int .i64 x.n, .int .u64 x.v, .int .i64 x.i]
/-- In the midst of an act: both, apart, and the act's box. -/
structure Bx (w0 w : World) (F0 F : Nat → Prop) (x : ActV) (q b d : Nat) (N : Nat) (st su : BS) : Prop where
  new : NewF w0 w F0 F
  two : Two w F b d N st su
  box : BoxA w q x
  far : ¬ F q
theorem Bx.start {w : World} {F : Nat → Prop} {b d N : Nat} {st su : BS} (h : Two w F b d N st su) (x : ActV) : Bx w (w.alloc (.cells #[.int .i64 x.d, .int .u64 x.a, .int .i64 x.n, .int .u64 x.v, .int .i64 x.i] 50)) F F x w.heap.size b d N st su :=
  ⟨NewF.same F ((Below.refl _ _).alloc (Nat.le_refl _) _), h.below ((Below.refl _ _).alloc (Nat.le_refl _) _), heap_alloc_new w _, fun hf => by have := h.lt _ hf; omega⟩
theorem Bx.tell {w0 w w' : World} {F0 F : Nat → Prop} {x : ActV} {q b d N N' : Nat} {st su st' su' : BS} {r : Value} {e : Ending} (h : Bx w0 w F0 F x q b d N st su) (k : TellT w F b d N' r st' su' e w') : e = .returned r ∧ ∃ F', Bx w0 w' F0 F' x q b d N' st' su' := by
  obtain ⟨he, F', hn, ht⟩ := k
  refine ⟨he, F', h.new.trans hn, ht, hn.1.keeps h.far h.box, fun hq => ?_⟩
  rcases hn.2 q hq with a | a
  · exact h.far a
  · have := h.box.lt; omega
theorem Bx.below {w0 w w' : World} {F0 F : Nat → Prop} {x : ActV} {q b d N : Nat} {st su : BS} (h : Bx w0 w F0 F x q b d N st su) (o : Below w.heap.size w w') : Bx w0 w' F0 F x q b d N st su :=
  ⟨h.new.trans (NewF.same F o), h.two.below o, (o.block q h.box.lt).trans h.box, h.far⟩
/-- What an act leaves of both. -/
def BothE (w : World) (F : Nat → Prop) (b d N : Nat) (e : Ending) (w' : World) : Prop := e = .returned (.bool true) ∧ ∃ F' st', NewF w w' F F' ∧ Two w' F' b d (N + 8) st' st'
theorem Bx.done {w0 w : World} {F0 F : Nat → Prop} {x : ActV} {q b d N N' : Nat} {st : BS} (h : Bx w0 w F0 F x q b d N' st st) (hN : N' ≤ N + 8) {r : Value} (hr : r = .bool true) : BothE w0 F0 b d N (.returned r) w := by
  subst hr; exact ⟨rfl, F, st, h.new, h.two.more hN⟩
theorem u8_mod (v : Int) : 0 ≤ v % 256 ∧ v % 256 < 256 := ⟨by omega, by omega⟩
theorem beq_self_b (r : Bool) : (r == r) = true := by cases r <;> rfl
theorem beq_self_z (r : Int) : (r == r) = true := by simp
theorem out_len {w : World} {F : Nat → Prop} {b d N : Nat} {st su : BS} (h : Two w F b d N st su) (i : Int) : (busOt st.us i).length ≤ 70000 := by
  obtain ⟨g, K, vp, ul, h, L, vq, um, P, R, ap, tb, cov, lt⟩ := h
  unfold busOt
  by_cases c : isU st.us.length i = true
  · rw [if_pos c]
    have hi := isU_nat c
    obtain ⟨k, rfl, hk⟩ := hi
    obtain ⟨vi, vo, hh⟩ := P.uart k (by rw [← P.len]; exact hk)
    have := hh.ok.lo
    simp only [Int.toNat_natCast]
    omega
  · rw [if_neg c]; exact Nat.zero_le _

def NoneE (w : World) (e : Ending) (w' : World) : Prop := e = .returned (.bool true) ∧ Below w.heap.size w w'
theorem write_none_bel (a n v : Int) (w : World) : Calls Tryz.prog 9 #[.pointer none, .int .u64 a, .int .i64 n, .int .u64 v] w fun e w' => e = .returned (.bool false) ∧ Below w.heap.size w w' :=
  (write_none_bus a n v w).mono fun e w' ⟨he, k, hk⟩ => ⟨he, by subst hk; exact ⟨rfl, rfl, rfl, Nat.le_refl _, fun _ _ => rfl⟩⟩
section
variable {w : World} {F : Nat → Prop} {b d N : Nat} {st : BS}
set_option maxHeartbeats 4000000 in
theorem both_0 (H : Two w F b d N st st) (hN : N < 900000) (x : ActV) (ha : In64 x.a) (hn : In63 x.n) (hv : In64 x.v) (hi : In63 x.i) (hd : x.d = 0) : Calls Tryz.prog 21 #[.pointer (some ⟨b, 0, none⟩), .pointer (some ⟨d, 0, none⟩), actV x] w (BothE w F b d N) := by
  obtain ⟨xd, xa, xn, xv, xi⟩ := x
  simp only at ha hn hv hi hd
  subst hd
  have HB := Lib.hid (Bx.start H ⟨0, xa, xn, xv, xi⟩)
  clear H
  go_enter Tryz.func21, Tryz.ntmps21
  go_upto_region 1 with (fail)
  generalize w.alloc (.cells #[.int .i64 0, .int .u64 xa, .int .i64 xn, .int .u64 xv, .int .i64 xi] 50) = w0 at *
  generalize w.heap.size = q at *
  obtain ⟨c0, c1, c2, c3, c4⟩ := HB.out.box.cells
  have HV := Lib.hid hv
  have HA := Lib.hid ha
  have HI := Lib.hid hi
  have HN := Lib.hid hn
  clear hv ha hi hn
  go_wp2_with (fail)
  (with_reducible refine (tWrite HB.out.two xa xn xv HA.out HV.out).mono ?_)
  rintro e w1 k
  obtain ⟨rfl, F1, hb1⟩ := HB.out.tell k
  clear k c0 c1 c2 c3 c4
  obtain ⟨c0, c1, c2, c3, c4⟩ := hb1.box.cells
  have HB1 := Lib.hid hb1
  clear hb1
  go_wp2_with (fail)
  (with_reducible refine (rWrite HB1.out.two xa xn xv HA.out HV.out hN).mono ?_)
  rintro e w2 k
  obtain ⟨rfl, F2, hb2⟩ := HB1.out.tell k
  clear k c0 c1 c2 c3 c4
  have HB2 := Lib.hid hb2
  clear hb2
  go_wp2
  go_ret
  exact HB2.out.done (by omega) (by first | rfl | (show Value.bool _ = _; rw [beq_self_b]))

set_option maxHeartbeats 4000000 in
theorem both_1 (H : Two w F b d N st st) (hN : N < 900000) (x : ActV) (ha : In64 x.a) (hn : In63 x.n) (hv : In64 x.v) (hi : In63 x.i) (hd : x.d = 1) : Calls Tryz.prog 21 #[.pointer (some ⟨b, 0, none⟩), .pointer (some ⟨d, 0, none⟩), actV x] w (BothE w F b d N) := by
  obtain ⟨xd, xa, xn, xv, xi⟩ := x
  simp only at ha hn hv hi hd
  subst hd
  have HB := Lib.hid (Bx.start H ⟨1, xa, xn, xv, xi⟩)
  clear H
  go_enter Tryz.func21, Tryz.ntmps21
  go_upto_region 1 with (fail)
  generalize w.alloc (.cells #[.int .i64 1, .int .u64 xa, .int .i64 xn, .int .u64 xv, .int .i64 xi] 50) = w0 at *
  generalize w.heap.size = q at *
  obtain ⟨c0, c1, c2, c3, c4⟩ := HB.out.box.cells
  have HV := Lib.hid hv
  have HA := Lib.hid ha
  have HI := Lib.hid hi
  have HN := Lib.hid hn
  clear hv ha hi hn
  go_wp2_with (fail)
  (with_reducible refine (tRead HB.out.two xa xn HA.out).mono ?_)
  rintro e w1 k
  obtain ⟨rfl, F1, hb1⟩ := HB.out.tell k
  clear k c0 c1 c2 c3 c4
  obtain ⟨c0, c1, c2, c3, c4⟩ := hb1.box.cells
  have HB1 := Lib.hid hb1
  clear hb1
  have b1 := beq_self_z (busRd st xa xn).1
  have b2 := beq_self_b (busRd st xa xn).2.1
  have HRR := Lib.hid (rRead HB1.out.two xa xn HA.out)
  generalize (busRd st xa xn).1 = y at *
  generalize (busRd st xa xn).2.1 = z at *
  go_wp2_with (fail)
  (with_reducible refine HRR.out.mono ?_)
  rintro e w2 k
  obtain ⟨rfl, F2, hb2⟩ := HB1.out.tell k
  clear k c0 c1 c2 c3 c4
  have HB2 := Lib.hid hb2
  clear hb2
  go_wp2
  go_ret
  exact HB2.out.done (by omega) (by first | rfl | (show Value.bool _ = _; rw [b2]))

set_option maxHeartbeats 4000000 in
theorem both_3 (H : Two w F b d N st st) (hN : N < 900000) (x : ActV) (ha : In64 x.a) (hn : In63 x.n) (hv : In64 x.v) (hi : In63 x.i) (hd : x.d = 3) : Calls Tryz.prog 21 #[.pointer (some ⟨b, 0, none⟩), .pointer (some ⟨d, 0, none⟩), actV x] w (BothE w F b d N) := by
  obtain ⟨xd, xa, xn, xv, xi⟩ := x
  simp only at ha hn hv hi hd
  subst hd
  have HB := Lib.hid (Bx.start H ⟨3, xa, xn, xv, xi⟩)
  clear H
  go_enter Tryz.func21, Tryz.ntmps21
  go_upto_region 1 with (fail)
  generalize w.alloc (.cells #[.int .i64 3, .int .u64 xa, .int .i64 xn, .int .u64 xv, .int .i64 xi] 50) = w0 at *
  generalize w.heap.size = q at *
  obtain ⟨c0, c1, c2, c3, c4⟩ := HB.out.box.cells
  have HV := Lib.hid hv
  have HA := Lib.hid ha
  have HI := Lib.hid hi
  have HN := Lib.hid hn
  clear hv ha hi hn
  have hv0 := HV.out.1
  go_wp2_with (fail)
  (with_reducible refine (tLevel HB.out.two xi _ HI.out).mono ?_)
  rintro e w1 k
  obtain ⟨rfl, F1, hb1⟩ := HB.out.tell k
  clear k c0 c1 c2 c3 c4
  obtain ⟨c0, c1, c2, c3, c4⟩ := hb1.box.cells
  have HB1 := Lib.hid hb1
  clear hb1
  go_wp2_with (fail)
  (with_reducible refine (rLevel HB1.out.two xi _).mono ?_)
  rintro e w2 k
  obtain ⟨rfl, F2, hb2⟩ := HB1.out.tell k
  clear k c0 c1 c2 c3 c4
  have HB2 := Lib.hid hb2
  clear hb2
  go_wp2
  go_ret
  exact HB2.out.done (by omega) (by first | rfl | (show Value.bool _ = _; rw [beq_self_b]))

set_option maxHeartbeats 4000000 in
theorem both_4 (H : Two w F b d N st st) (hN : N < 900000) (x : ActV) (ha : In64 x.a) (hn : In63 x.n) (hv : In64 x.v) (hi : In63 x.i) (hd : x.d = 4) : Calls Tryz.prog 21 #[.pointer (some ⟨b, 0, none⟩), .pointer (some ⟨d, 0, none⟩), actV x] w (BothE w F b d N) := by
  obtain ⟨xd, xa, xn, xv, xi⟩ := x
  simp only at ha hn hv hi hd
  subst hd
  have HB := Lib.hid (Bx.start H ⟨4, xa, xn, xv, xi⟩)
  clear H
  go_enter Tryz.func21, Tryz.ntmps21
  go_upto_region 1 with (fail)
  generalize w.alloc (.cells #[.int .i64 4, .int .u64 xa, .int .i64 xn, .int .u64 xv, .int .i64 xi] 50) = w0 at *
  generalize w.heap.size = q at *
  obtain ⟨c0, c1, c2, c3, c4⟩ := HB.out.box.cells
  have HV := Lib.hid hv
  have HA := Lib.hid ha
  have HI := Lib.hid hi
  have HN := Lib.hid hn
  clear hv ha hi hn
  go_wp2_with (fail)
  (with_reducible refine (tTick HB.out.two xv HV.out).mono ?_)
  rintro e w1 ⟨u1, k⟩
  obtain ⟨rfl, F1, hb1⟩ := HB.out.tell k
  clear k c0 c1 c2 c3 c4
  obtain ⟨c0, c1, c2, c3, c4⟩ := hb1.box.cells
  have HB1 := Lib.hid hb1
  clear hb1
  go_wp2_with (fail)
  (with_reducible refine (rTick HB1.out.two xv HV.out).mono ?_)
  rintro e w2 ⟨u2, k⟩
  obtain ⟨rfl, F2, hb2⟩ := HB1.out.tell k
  clear k c0 c1 c2 c3 c4
  have HB2 := Lib.hid hb2
  clear hb2
  go_wp2
  go_ret
  exact HB2.out.done (by omega) rfl

set_option maxHeartbeats 4000000 in
theorem both_6 (H : Two w F b d N st st) (hN : N < 900000) (x : ActV) (ha : In64 x.a) (hn : In63 x.n) (hv : In64 x.v) (hi : In63 x.i) (hd : x.d = 6) : Calls Tryz.prog 21 #[.pointer (some ⟨b, 0, none⟩), .pointer (some ⟨d, 0, none⟩), actV x] w (BothE w F b d N) := by
  obtain ⟨xd, xa, xn, xv, xi⟩ := x
  simp only at ha hn hv hi hd
  subst hd
  have HB := Lib.hid (Bx.start H ⟨6, xa, xn, xv, xi⟩)
  clear H
  go_enter Tryz.func21, Tryz.ntmps21
  go_upto_region 1 with (fail)
  generalize w.alloc (.cells #[.int .i64 6, .int .u64 xa, .int .i64 xn, .int .u64 xv, .int .i64 xi] 50) = w0 at *
  generalize w.heap.size = q at *
  obtain ⟨c0, c1, c2, c3, c4⟩ := HB.out.box.cells
  have HV := Lib.hid hv
  have HA := Lib.hid ha
  have HI := Lib.hid hi
  have HN := Lib.hid hn
  clear hv ha hi hn
  have HT : Hid (∀ wx, Below w0.heap.size w0 wx → Calls Tryz.prog 10 #[.pointer (some ⟨b, 0, none⟩), .int .u64 xa, .int .i64 xn] wx (IsRamE wx (M3.okN xn && M3.hasZ 2147483648 st.size xa xn))) := Lib.hid fun wx hx => tIsRam (HB.out.two.below hx) xa xn HA.out
  have HR : Hid (∀ wx, Below w0.heap.size w0 wx → Calls Tryz.prog 60 #[.pointer (some ⟨d, 0, none⟩), .int .u64 xa, .int .i64 xn] wx (IsRamE wx (M3.okN xn && M3.hasZ 2147483648 st.size xa xn))) := Lib.hid fun wx hx => rIsRam (HB.out.two.below hx) xa xn HA.out
  generalize (M3.okN xn && M3.hasZ 2147483648 st.size xa xn) = r at *
  have br := beq_self_b r
  go_wp2_with fail
  refine wp_region_held_drew (S := fun wx => Below w0.heap.size w0 wx) (by kernel_rfl) ((Below.refl _ _).drew) (fun hHeld0 => ?_)
  have HS := Lib.hid hHeld0
  clear hHeld0
  refine takeD (i := 0) (some 128) (v := ?_) rfl rfl (by kernel_rfl) (by kernel_rfl) (by kernel_rfl) (fun _ _ _ h => h) (by rfl) HS.out ?_ ?_
  rotate_left
  · intro wx hSx
    clear hSx
    go_simp
    try (with_reducible rfl)
  simp only [Act.put, List.setIfInBounds_toArray, List.set_cons_zero, List.set_cons_succ]
  refine takeD (i := 1) (some 129) (v := ?_) rfl rfl (by kernel_rfl) (by kernel_rfl) (by kernel_rfl) (fun _ _ _ h => h) (by rfl) HS.out ?_ ?_
  rotate_left
  · intro wx hSx
    clear hSx
    go_simp
    try (with_reducible rfl)
  simp only [Act.put, List.setIfInBounds_toArray, List.set_cons_zero, List.set_cons_succ]
  refine takeD (i := 2) (some 130) (v := ?_) rfl rfl (by kernel_rfl) (by kernel_rfl) (by kernel_rfl) (fun _ _ _ h => h) (by rfl) HS.out ?_ ?_
  rotate_left
  · intro wx hSx
    obtain ⟨c0, c1, c2, c3, c4⟩ := (HB.out.below hSx).box.cells
    clear hSx
    go_simp
    try (with_reducible rfl)
  simp only [Act.put, List.setIfInBounds_toArray, List.set_cons_zero, List.set_cons_succ]
  refine takeD (i := 3) (some 131) (v := ?_) rfl rfl (by kernel_rfl) (by kernel_rfl) (by kernel_rfl) (fun _ _ _ h => h) (by rfl) HS.out ?_ ?_
  rotate_left
  · intro wx hSx
    clear hSx
    go_simp
    try (with_reducible rfl)
  simp only [Act.put, List.setIfInBounds_toArray, List.set_cons_zero, List.set_cons_succ]
  refine takeD (i := 4) (some 132) (v := ?_) rfl rfl (by kernel_rfl) (by kernel_rfl) (by kernel_rfl) (fun _ _ _ h => h) (by rfl) HS.out ?_ ?_
  rotate_left
  · intro wx hSx
    obtain ⟨c0, c1, c2, c3, c4⟩ := (HB.out.below hSx).box.cells
    clear hSx
    go_simp
    try (with_reducible rfl)
  simp only [Act.put, List.setIfInBounds_toArray, List.set_cons_zero, List.set_cons_succ]
  refine takeD (i := 6) (some 134) (v := ?_) rfl rfl (by kernel_rfl) (by kernel_rfl) (by kernel_rfl) (fun _ _ _ h => h) (by rfl) HS.out ?_ ?_
  rotate_left
  · intro wx hSx
    clear hSx
    go_simp
    try (with_reducible rfl)
  simp only [Act.put, List.setIfInBounds_toArray, List.set_cons_zero, List.set_cons_succ]
  refine takeD (i := 7) (some 135) (v := ?_) rfl rfl (by kernel_rfl) (by kernel_rfl) (by kernel_rfl) (fun _ _ _ h => h) (by rfl) HS.out ?_ ?_
  rotate_left
  · intro wx hSx
    clear hSx
    go_simp
    try (with_reducible rfl)
  simp only [Act.put, List.setIfInBounds_toArray, List.set_cons_zero, List.set_cons_succ]
  refine takeD (i := 8) (some 136) (v := ?_) rfl rfl (by kernel_rfl) (by kernel_rfl) (by kernel_rfl) (fun _ _ _ h => h) (by rfl) HS.out ?_ ?_
  rotate_left
  · intro wx hSx
    obtain ⟨c0, c1, c2, c3, c4⟩ := (HB.out.below hSx).box.cells
    clear hSx
    go_simp
    try (with_reducible rfl)
  simp only [Act.put, List.setIfInBounds_toArray, List.set_cons_zero, List.set_cons_succ]
  refine takeD (i := 9) (some 137) (v := ?_) rfl rfl (by kernel_rfl) (by kernel_rfl) (by kernel_rfl) (fun _ _ _ h => h) (by rfl) HS.out ?_ ?_
  rotate_left
  · intro wx hSx
    clear hSx
    go_simp
    try (with_reducible rfl)
  simp only [Act.put, List.setIfInBounds_toArray, List.set_cons_zero, List.set_cons_succ]
  refine takeD (i := 10) (some 138) (v := ?_) rfl rfl (by kernel_rfl) (by kernel_rfl) (by kernel_rfl) (fun _ _ _ h => h) (by rfl) HS.out ?_ ?_
  rotate_left
  · intro wx hSx
    obtain ⟨c0, c1, c2, c3, c4⟩ := (HB.out.below hSx).box.cells
    clear hSx
    go_simp
    try (with_reducible rfl)
  simp only [Act.put, List.setIfInBounds_toArray, List.set_cons_zero, List.set_cons_succ]
  refine wpAnyH_ready (rs := [5]) (by kernel_rfl) (by simp) ?_
  refine AllReadyH.cons rfl (fun K hK => ?_) AllReadyH.nil
  go_simp
  (with_reducible refine (HT.out _ HS.out).mono ?_)
  rintro e w3 ⟨rfl, hb⟩
  have HSw3 : Hid (Below w0.heap.size w0 w3) := Lib.hid (HS.out.trans (hb.mono HS.out.size))
  clear hb
  go_simp
  refine hK.out _ _ ?_ (fun hHeld => ?_)
  · exact HSw3.out
  clear hHeld hK K
  try simp only [Act.put, List.setIfInBounds_toArray, List.set_cons_zero, List.set_cons_succ]
  replace HS := HSw3
  refine wpAnyH_ready (rs := [11]) (by kernel_rfl) (by simp) ?_
  refine AllReadyH.cons rfl (fun K hK => ?_) AllReadyH.nil
  go_simp
  (with_reducible refine (HR.out _ HS.out).mono ?_)
  rintro e w4 ⟨rfl, hb⟩
  have HSw4 : Hid (Below w0.heap.size w0 w4) := Lib.hid (HS.out.trans (hb.mono HS.out.size))
  clear hb
  go_simp
  refine hK.out _ _ ?_ (fun hHeld => ?_)
  · exact HSw4.out
  clear hHeld hK K
  try simp only [Act.put, List.setIfInBounds_toArray, List.set_cons_zero, List.set_cons_succ]
  replace HS := HSw4
  refine takeD (i := 12) (some 140) (v := ?_) rfl rfl (by kernel_rfl) (by kernel_rfl) (by kernel_rfl) (fun _ _ _ h => h) (by rfl) HS.out ?_ ?_
  rotate_left
  · intro wx hSx
    clear hSx
    go_simp
    try (with_reducible rfl)
  simp only [Act.put, List.setIfInBounds_toArray, List.set_cons_zero, List.set_cons_succ]
  refine takeD (i := 13) (some 6) (v := ?_) rfl rfl (by kernel_rfl) (by kernel_rfl) (by kernel_rfl) (fun _ _ _ h => h) (by rfl) HS.out ?_ ?_
  rotate_left
  · intro wx hSx
    clear hSx
    go_simp
    try (with_reducible rfl)
  simp only [Act.put, List.setIfInBounds_toArray, List.set_cons_zero, List.set_cons_succ]
  refine wpAnyH_done (by kernel_rfl) ?_ _
  go_wp2
  go_ret
  exact (HB.out.below HSw4.out).done (by omega) (by first | rfl | (show Value.bool _ = _; rw [br]))

set_option maxHeartbeats 4000000 in
theorem both_2 (H : Two w F b d N st st) (hN : N < 900000) (x : ActV) (ha : In64 x.a) (hn : In63 x.n) (hv : In64 x.v) (hi : In63 x.i) (hd : x.d = 2) : Calls Tryz.prog 21 #[.pointer (some ⟨b, 0, none⟩), .pointer (some ⟨d, 0, none⟩), actV x] w (BothE w F b d N) := by
  obtain ⟨xd, xa, xn, xv, xi⟩ := x
  simp only at ha hn hv hi hd
  subst hd
  have HB := Lib.hid (Bx.start H ⟨2, xa, xn, xv, xi⟩)
  clear H
  go_enter Tryz.func21, Tryz.ntmps21
  go_upto_region 1 with (fail)
  generalize w.alloc (.cells #[.int .i64 2, .int .u64 xa, .int .i64 xn, .int .u64 xv, .int .i64 xi] 50) = w0 at *
  generalize w.heap.size = q at *
  obtain ⟨c0, c1, c2, c3, c4⟩ := HB.out.box.cells
  have HV := Lib.hid hv
  have HA := Lib.hid ha
  have HI := Lib.hid hi
  have HN := Lib.hid hn
  clear hv ha hi hn
  have hv0 := HV.out.1
  go_wp2_with (fail)
  (with_reducible refine (tFeed HB.out.two xi _ (u8_mod xv)).mono ?_)
  rintro e w1 k
  obtain ⟨rfl, F1, hb1⟩ := HB.out.tell k
  clear k c0 c1 c2 c3 c4
  obtain ⟨c0, c1, c2, c3, c4⟩ := hb1.box.cells
  have HB1 := Lib.hid hb1
  clear hb1
  have HD := Lib.hid (HB1.out.below ((Below.refl w1.heap.size w1).drew))
  have HRFD : Hid (Calls Tryz.prog 57 #[.pointer (some ⟨d, 0, none⟩), .int .i64 xi, .int .u8 (IntKind.u8.wrap xv)] w1.drew (TellT w1.drew F1 b d N (.bool (busFd st xi (xv % 256)).1) (busFd st xi (xv % 256)).2 (busFd st xi (xv % 256)).2)) := Lib.hid (by rw [show IntKind.u8.wrap xv = xv % 256 from IntKind.wrap_u8 xv]; exact rFeed HD.out.two xi _ (u8_mod xv))
  generalize (busFd st xi (xv % 256)).1 = rf at *
  generalize (busFd st xi (xv % 256)).2 = st2 at *
  go_wp2_with fail
  refine wp_region_held_drew (S := fun wx => Only F1 w1 wx) (by kernel_rfl) (Only.of_below F1 ((Below.refl w1.heap.size w1).drew)) (fun hHeld0 => ?_)
  have HS := Lib.hid hHeld0
  clear hHeld0
  refine takeD (i := 0) (some 74) (v := ?_) rfl rfl (by kernel_rfl) (by kernel_rfl) (by kernel_rfl) (fun _ _ _ h => h) (by rfl) HS.out ?_ ?_
  rotate_left
  · intro wx hSx
    clear hSx
    go_simp
    try (with_reducible rfl)
  simp only [Act.put, List.setIfInBounds_toArray, List.set_cons_zero, List.set_cons_succ]
  refine takeD (i := 1) (some 75) (v := ?_) rfl rfl (by kernel_rfl) (by kernel_rfl) (by kernel_rfl) (fun _ _ _ h => h) (by rfl) HS.out ?_ ?_
  rotate_left
  · intro wx hSx
    clear hSx
    go_simp
    try (with_reducible rfl)
  simp only [Act.put, List.setIfInBounds_toArray, List.set_cons_zero, List.set_cons_succ]
  refine takeD (i := 2) (some 76) (v := ?_) rfl rfl (by kernel_rfl) (by kernel_rfl) (by kernel_rfl) (fun _ _ _ h => h) (by rfl) HS.out ?_ ?_
  rotate_left
  · intro wx hSx
    clear hSx
    go_simp
    try (with_reducible rfl)
  simp only [Act.put, List.setIfInBounds_toArray, List.set_cons_zero, List.set_cons_succ]
  refine takeD (i := 3) (some 77) (v := ?_) rfl rfl (by kernel_rfl) (by kernel_rfl) (by kernel_rfl) (fun _ _ _ h => h) (by rfl) HS.out ?_ ?_
  rotate_left
  · intro wx hSx
    obtain ⟨c0, c1, c2, c3, c4⟩ := (HB1.out.box.keeps hSx HB1.out.far).cells
    clear hSx
    go_simp
    try (with_reducible rfl)
  simp only [Act.put, List.setIfInBounds_toArray, List.set_cons_zero, List.set_cons_succ]
  refine takeD (i := 4) (some 78) (v := ?_) rfl rfl (by kernel_rfl) (by kernel_rfl) (by kernel_rfl) (fun _ _ _ h => h) (by rfl) HS.out ?_ ?_
  rotate_left
  · intro wx hSx
    clear hSx
    go_simp
    try (with_reducible rfl)
  simp only [Act.put, List.setIfInBounds_toArray, List.set_cons_zero, List.set_cons_succ]
  refine takeD (i := 5) (some 79) (v := ?_) rfl rfl (by kernel_rfl) (by kernel_rfl) (by kernel_rfl) (fun _ _ _ h => h) (by rfl) HS.out ?_ ?_
  rotate_left
  · intro wx hSx
    obtain ⟨c0, c1, c2, c3, c4⟩ := (HB1.out.box.keeps hSx HB1.out.far).cells
    clear hSx
    go_simp
    try (with_reducible rfl)
  simp only [Act.put, List.setIfInBounds_toArray, List.set_cons_zero, List.set_cons_succ]
  refine takeD (i := 6) (some 80) (v := ?_) rfl rfl (by kernel_rfl) (by kernel_rfl) (by kernel_rfl) (fun _ _ _ h => h) (by rfl) HS.out ?_ ?_
  rotate_left
  · intro wx hSx
    clear hSx
    go_simp
    try (with_reducible rfl)
  simp only [Act.put, List.setIfInBounds_toArray, List.set_cons_zero, List.set_cons_succ]
  refine wpAnyH_ready (rs := [7]) (by kernel_rfl) (by simp) ?_
  refine AllReadyH.cons rfl (fun K hK => ?_) AllReadyH.nil
  go_simp
  (with_reducible refine (HRFD.out).mono ?_)
  rintro e w3 k
  have HO3 := Lib.hid ((Only.of_below F1 ((Below.refl w1.heap.size w1).drew)).trans k.2.choose_spec.1.1)
  obtain ⟨rfl, F2, hb2⟩ := HD.out.tell k
  clear k
  have HB2 := Lib.hid hb2
  clear hb2
  have HLN := Lib.hid (out_len HB2.out.two xi)
  have HOT : Hid (∀ wx, Below w3.heap.size w3 wx → Calls Tryz.prog 17 #[.pointer (some ⟨b, 0, none⟩), .int .i64 xi] wx (OutE wx (busOt st2.us xi))) := Lib.hid fun wx hx => tOut (HB2.out.two.below hx) xi
  have HOR : Hid (∀ wx, Below w3.heap.size w3 wx → Calls Tryz.prog 23 #[.pointer (some ⟨d, 0, none⟩), .int .i64 xi] wx (OutE wx (busOt st2.us xi))) := Lib.hid fun wx hx => rOut (HB2.out.two.below hx) xi
  have HSTR : Hid (∀ wx v, U6.RowB wx v (busOt st2.us xi) → (convert 40 9 v).run Tryz.prog wx = .ok (.string (strOfNums (busOt st2.us xi))) wx) := Lib.hid fun wx v h => U6.conv_row h HLN.out
  generalize strOfNums (busOt st2.us xi) = sO at *
  generalize busOt st2.us xi = L at *
  have bo : (sO.toList == sO.toList) = true := by simp
  go_simp
  refine hK.out _ _ ?_ (fun hHeld => ?_)
  · exact HO3.out
  clear hHeld hK K
  try simp only [Act.put, List.setIfInBounds_toArray, List.set_cons_zero, List.set_cons_succ]
  refine wpAnyH_more (T := fun wx => Below w3.heap.size w3 wx) (fun wx hx => HO3.out.thenBelow hx) _ _ _ _ ?_
  replace HS : Hid (Below w3.heap.size w3 w3) := Lib.hid (Below.refl _ _)
  have brf := beq_self_b rf
  refine takeD (i := 8) (some 82) (v := ?_) rfl rfl (by kernel_rfl) (by kernel_rfl) (by kernel_rfl) (fun _ _ _ h => h) (by rfl) HS.out ?_ ?_
  rotate_left
  · intro wx hSx
    clear hSx
    go_simp
    try (with_reducible rfl)
  simp only [Act.put, List.setIfInBounds_toArray, List.set_cons_zero, List.set_cons_succ]
  refine takeD (i := 9) (some 83) (v := ?_) rfl rfl (by kernel_rfl) (by kernel_rfl) (by kernel_rfl) (fun _ _ _ h => h) (by rfl) HS.out ?_ ?_
  rotate_left
  · intro wx hSx
    clear hSx
    go_simp
    try (with_reducible rfl)
  simp only [Act.put, List.setIfInBounds_toArray, List.set_cons_zero, List.set_cons_succ]
  refine takeD (i := 10) (some 84) (v := ?_) rfl rfl (by kernel_rfl) (by kernel_rfl) (by kernel_rfl) (fun _ _ _ h => h) (by rfl) HS.out ?_ ?_
  rotate_left
  · intro wx hSx
    clear hSx
    go_simp
    try (with_reducible rfl)
  simp only [Act.put, List.setIfInBounds_toArray, List.set_cons_zero, List.set_cons_succ]
  refine takeD (i := 11) (some 85) (v := ?_) rfl rfl (by kernel_rfl) (by kernel_rfl) (by kernel_rfl) (fun _ _ _ h => h) (by rfl) HS.out ?_ ?_
  rotate_left
  · intro wx hSx
    clear hSx
    go_simp
    try (with_reducible rfl)
  simp only [Act.put, List.setIfInBounds_toArray, List.set_cons_zero, List.set_cons_succ]
  refine takeD (i := 12) (some 86) (v := ?_) rfl rfl (by kernel_rfl) (by kernel_rfl) (by kernel_rfl) (fun _ _ _ h => h) (by rfl) HS.out ?_ ?_
  rotate_left
  · intro wx hSx
    obtain ⟨c0, c1, c2, c3, c4⟩ := (HB2.out.below hSx).box.cells
    clear hSx
    go_simp
    try (with_reducible rfl)
  simp only [Act.put, List.setIfInBounds_toArray, List.set_cons_zero, List.set_cons_succ]
  refine takeD (i := 15) (some 89) (v := ?_) rfl rfl (by kernel_rfl) (by kernel_rfl) (by kernel_rfl) (fun _ _ _ h => h) (by rfl) HS.out ?_ ?_
  rotate_left
  · intro wx hSx
    clear hSx
    go_simp
    try (with_reducible rfl)
  simp only [Act.put, List.setIfInBounds_toArray, List.set_cons_zero, List.set_cons_succ]
  refine takeD (i := 16) (some 90) (v := ?_) rfl rfl (by kernel_rfl) (by kernel_rfl) (by kernel_rfl) (fun _ _ _ h => h) (by rfl) HS.out ?_ ?_
  rotate_left
  · intro wx hSx
    clear hSx
    go_simp
    try (with_reducible rfl)
  simp only [Act.put, List.setIfInBounds_toArray, List.set_cons_zero, List.set_cons_succ]
  refine takeD (i := 17) (some 91) (v := ?_) rfl rfl (by kernel_rfl) (by kernel_rfl) (by kernel_rfl) (fun _ _ _ h => h) (by rfl) HS.out ?_ ?_
  rotate_left
  · intro wx hSx
    obtain ⟨c0, c1, c2, c3, c4⟩ := (HB2.out.below hSx).box.cells
    clear hSx
    go_simp
    try (with_reducible rfl)
  simp only [Act.put, List.setIfInBounds_toArray, List.set_cons_zero, List.set_cons_succ]
  refine wpAnyH_ready (rs := [13]) (by kernel_rfl) (by simp) ?_
  refine AllReadyH.cons rfl (fun K hK => ?_) AllReadyH.nil
  go_simp
  (with_reducible refine (HOT.out _ (HS.out)).mono ?_)
  rintro e w5 ⟨a5, k5, rfl, hb5, hr5⟩
  have HB5 : Hid (Below w3.heap.size w3 w5) := Lib.hid ((HS.out).trans (hb5.mono (HS.out).size))
  have HC5 : Hid (∀ wx, Below w5.heap.size w5 wx → (convert 40 9 (.slice a5 L.length k5)).run Tryz.prog wx = .ok (.string sO) wx) := Lib.hid fun wx hx => HSTR.out wx _ (hr5.below hx)
  have HX5 := Lib.hid hb5
  clear hb5 hr5
  go_simp
  refine hK.out _ _ ?_ (fun hHeld => ?_)
  · exact HB5.out
  clear hHeld hK K
  try simp only [Act.put, List.setIfInBounds_toArray, List.set_cons_zero, List.set_cons_succ]
  refine wpAnyH_more (T := fun wx => Below w5.heap.size w5 wx) (fun wx hx => HB5.out.trans (hx.mono HB5.out.size)) _ _ _ _ ?_
  replace HS : Hid (Below w5.heap.size w5 w5) := Lib.hid (Below.refl _ _)
  refine takeD (i := 14) (some 88) (v := ?_) rfl rfl (by kernel_rfl) (by kernel_rfl) (by kernel_rfl) (fun _ _ _ h => h) (by rfl) HS.out ?_ ?_
  rotate_left
  · intro wx hSx
    have hcv := HC5.out wx hSx
    clear hSx
    go_simp
    try (with_reducible rfl)
  simp only [Act.put, List.setIfInBounds_toArray, List.set_cons_zero, List.set_cons_succ]
  refine wpAnyH_ready (rs := [18]) (by kernel_rfl) (by simp) ?_
  refine AllReadyH.cons rfl (fun K hK => ?_) AllReadyH.nil
  go_simp
  (with_reducible refine (HOR.out _ (HB5.out.trans (HS.out.mono HB5.out.size))).mono ?_)
  rintro e w7 ⟨a7, k7, rfl, hb5, hr5⟩
  have HB7 : Hid (Below w3.heap.size w3 w7) := Lib.hid ((HB5.out.trans (HS.out.mono HB5.out.size)).trans (hb5.mono (HB5.out.trans (HS.out.mono HB5.out.size)).size))
  have HC7 : Hid (∀ wx, Below w7.heap.size w7 wx → (convert 40 9 (.slice a7 L.length k7)).run Tryz.prog wx = .ok (.string sO) wx) := Lib.hid fun wx hx => HSTR.out wx _ (hr5.below hx)
  have HX7 := Lib.hid hb5
  clear hb5 hr5
  go_simp
  refine hK.out _ _ ?_ (fun hHeld => ?_)
  · exact HS.out.trans (HX7.out.mono HS.out.size)
  clear hHeld hK K
  try simp only [Act.put, List.setIfInBounds_toArray, List.set_cons_zero, List.set_cons_succ]
  refine wpAnyH_more (T := fun wx => Below w7.heap.size w7 wx) (fun wx hx => HX7.out.trans (hx.mono HX7.out.size)) _ _ _ _ ?_
  replace HS : Hid (Below w7.heap.size w7 w7) := Lib.hid (Below.refl _ _)
  refine takeD (i := 19) (some 93) (v := ?_) rfl rfl (by kernel_rfl) (by kernel_rfl) (by kernel_rfl) (fun _ _ _ h => h) (by rfl) HS.out ?_ ?_
  rotate_left
  · intro wx hSx
    have hcv := HC7.out wx hSx
    clear hSx
    go_simp
    try (with_reducible rfl)
  simp only [Act.put, List.setIfInBounds_toArray, List.set_cons_zero, List.set_cons_succ]
  refine takeD (i := 20) (some 94) (v := ?_) rfl rfl (by kernel_rfl) (by kernel_rfl) (by kernel_rfl) (fun _ _ _ h => h) (by rfl) HS.out ?_ ?_
  rotate_left
  · intro wx hSx
    clear hSx
    go_simp
    try (with_reducible rfl)
  simp only [Act.put, List.setIfInBounds_toArray, List.set_cons_zero, List.set_cons_succ]
  refine takeD (i := 21) (some 95) (v := ?_) rfl rfl (by kernel_rfl) (by kernel_rfl) (by kernel_rfl) (fun _ _ _ h => h) (by rfl) HS.out ?_ ?_
  rotate_left
  · intro wx hSx
    clear hSx
    go_simp
    try (with_reducible rfl)
  simp only [Act.put, List.setIfInBounds_toArray, List.set_cons_zero, List.set_cons_succ]
  refine takeD (i := 22) (some 6) (v := ?_) rfl rfl (by kernel_rfl) (by kernel_rfl) (by kernel_rfl) (fun _ _ _ h => h) (by rfl) HS.out ?_ ?_
  rotate_left
  · intro wx hSx
    clear hSx
    go_simp
    try (with_reducible rfl)
  simp only [Act.put, List.setIfInBounds_toArray, List.set_cons_zero, List.set_cons_succ]
  refine wpAnyH_done (by kernel_rfl) ?_ _
  go_wp2
  go_ret
  exact (HB2.out.below HB7.out).done (by omega) rfl

set_option maxHeartbeats 4000000 in
theorem both_7 (H : Two w F b d N st st) (hN : N < 900000) (x : ActV) (ha : In64 x.a) (hn : In63 x.n) (hv : In64 x.v) (hi : In63 x.i) (hd : x.d = 7) : Calls Tryz.prog 21 #[.pointer (some ⟨b, 0, none⟩), .pointer (some ⟨d, 0, none⟩), actV x] w (BothE w F b d N) := by
  obtain ⟨xd, xa, xn, xv, xi⟩ := x
  simp only at ha hn hv hi hd
  subst hd
  have HB := Lib.hid (Bx.start H ⟨7, xa, xn, xv, xi⟩)
  clear H
  go_enter Tryz.func21, Tryz.ntmps21
  go_upto_region 1 with (fail)
  generalize w.alloc (.cells #[.int .i64 7, .int .u64 xa, .int .i64 xn, .int .u64 xv, .int .i64 xi] 50) = w0 at *
  generalize w.heap.size = q at *
  obtain ⟨c0, c1, c2, c3, c4⟩ := HB.out.box.cells
  have HV := Lib.hid hv
  have HA := Lib.hid ha
  have HI := Lib.hid hi
  have HN := Lib.hid hn
  clear hv ha hi hn
  have HD := Lib.hid (HB.out.below ((Below.refl w0.heap.size w0).drew))
  obtain ⟨g, r1, r2⟩ := tRam HD.out.two
  have HR1 := Lib.hid r1
  have HR2 := Lib.hid r2
  clear r1 r2
  go_wp2_with fail
  refine wp_region_held_drew (S := fun wx => Only F w0 wx) (by kernel_rfl) (Only.of_below F ((Below.refl w0.heap.size w0).drew)) (fun hHeld0 => ?_)
  have HS := Lib.hid hHeld0
  clear hHeld0
  refine takeD (i := 0) (some 145) (v := ?_) rfl rfl (by kernel_rfl) (by kernel_rfl) (by kernel_rfl) (fun _ _ _ h => h) (by rfl) HS.out ?_ ?_
  rotate_left
  · intro wx hSx
    clear hSx
    go_simp
    try (with_reducible rfl)
  simp only [Act.put, List.setIfInBounds_toArray, List.set_cons_zero, List.set_cons_succ]
  refine takeD (i := 2) (some 147) (v := ?_) rfl rfl (by kernel_rfl) (by kernel_rfl) (by kernel_rfl) (fun _ _ _ h => h) (by rfl) HS.out ?_ ?_
  rotate_left
  · intro wx hSx
    clear hSx
    go_simp
    try (with_reducible rfl)
  simp only [Act.put, List.setIfInBounds_toArray, List.set_cons_zero, List.set_cons_succ]
  refine takeD (i := 3) (some 148) (v := ?_) rfl rfl (by kernel_rfl) (by kernel_rfl) (by kernel_rfl) (fun _ _ _ h => h) (by rfl) HS.out ?_ ?_
  rotate_left
  · intro wx hSx
    obtain ⟨c0, c1, c2, c3, c4⟩ := (HB.out.box.keeps hSx HB.out.far).cells
    clear hSx
    go_simp
    try (with_reducible rfl)
  simp only [Act.put, List.setIfInBounds_toArray, List.set_cons_zero, List.set_cons_succ]
  refine takeD (i := 4) (some 149) (v := ?_) rfl rfl (by kernel_rfl) (by kernel_rfl) (by kernel_rfl) (fun _ _ _ h => h) (by rfl) HS.out ?_ ?_
  rotate_left
  · intro wx hSx
    clear hSx
    go_simp
    try (with_reducible rfl)
  simp only [Act.put, List.setIfInBounds_toArray, List.set_cons_zero, List.set_cons_succ]
  refine takeD (i := 5) (some 150) (v := ?_) rfl rfl (by kernel_rfl) (by kernel_rfl) (by kernel_rfl) (fun _ _ _ h => h) (by rfl) HS.out ?_ ?_
  rotate_left
  · intro wx hSx
    obtain ⟨c0, c1, c2, c3, c4⟩ := (HB.out.box.keeps hSx HB.out.far).cells
    clear hSx
    go_simp
    try (with_reducible rfl)
  simp only [Act.put, List.setIfInBounds_toArray, List.set_cons_zero, List.set_cons_succ]
  refine takeD (i := 6) (some 151) (v := ?_) rfl rfl (by kernel_rfl) (by kernel_rfl) (by kernel_rfl) (fun _ _ _ h => h) (by rfl) HS.out ?_ ?_
  rotate_left
  · intro wx hSx
    clear hSx
    go_simp
    try (with_reducible rfl)
  simp only [Act.put, List.setIfInBounds_toArray, List.set_cons_zero, List.set_cons_succ]
  refine takeD (i := 7) (some 152) (v := ?_) rfl rfl (by kernel_rfl) (by kernel_rfl) (by kernel_rfl) (fun _ _ _ h => h) (by rfl) HS.out ?_ ?_
  rotate_left
  · intro wx hSx
    obtain ⟨c0, c1, c2, c3, c4⟩ := (HB.out.box.keeps hSx HB.out.far).cells
    clear hSx
    go_simp
    try (with_reducible rfl)
  simp only [Act.put, List.setIfInBounds_toArray, List.set_cons_zero, List.set_cons_succ]
  refine wpAnyH_ready (rs := [1]) (by kernel_rfl) (by simp) ?_
  refine AllReadyH.cons rfl (fun K hK => ?_) AllReadyH.nil
  go_simp
  (with_reducible refine HR1.out.mono ?_)
  rintro e wz ⟨rfl, rfl⟩
  go_simp
  refine hK.out _ _ ?_ (fun hHeld => ?_)
  · exact HS.out
  clear hHeld hK K
  try simp only [Act.put, List.setIfInBounds_toArray, List.set_cons_zero, List.set_cons_succ]
  refine wpAnyH_ready (rs := [8]) (by kernel_rfl) (by simp) ?_
  refine AllReadyH.cons rfl (fun K hK => ?_) AllReadyH.nil
  go_simp
  (with_reducible refine (HR2.out xa xn xv HA.out HN.out HV.out).mono ?_)
  rintro e w1 k
  have HO1 := Lib.hid ((Only.of_below F ((Below.refl w0.heap.size w0).drew)).trans k.2.choose_spec.1.1)
  obtain ⟨rfl, F1, hb1⟩ := HD.out.tell k
  clear k
  have HB1 := Lib.hid hb1
  clear hb1
  go_simp
  refine hK.out _ _ ?_ (fun hHeld => ?_)
  · exact HO1.out
  clear hHeld hK K
  try simp only [Act.put, List.setIfInBounds_toArray, List.set_cons_zero, List.set_cons_succ]
  replace HS := HO1
  refine takeD (i := 9) (some 14) (v := ?_) rfl rfl (by kernel_rfl) (by kernel_rfl) (by kernel_rfl) (fun _ _ _ h => h) (by rfl) HS.out ?_ ?_
  rotate_left
  · intro wx hSx
    clear hSx
    go_simp
    try (with_reducible rfl)
  simp only [Act.put, List.setIfInBounds_toArray, List.set_cons_zero, List.set_cons_succ]
  refine wpAnyH_done (by kernel_rfl) ?_ _
  have HE := Lib.hid (HB1.out.below ((Below.refl w1.heap.size w1).drew))
  obtain ⟨hm, s1, s2⟩ := rRam HE.out.two hN
  have HCD := Lib.hid s1
  have HRW := Lib.hid (s2 xa xn xv HA.out HV.out)
  clear s1 s2 HS
  generalize (M3.okN xn && M3.hasZ 2147483648 st.size xa xn) = r at *
  have br := beq_self_b r
  go_wp2_with fail
  refine wp_region_held_drew (S := fun wx => Only F1 w1 wx ∧ wx.cell? ⟨d, 0, none⟩ = some (.pointer (some ⟨hm, 0, none⟩))) (by kernel_rfl) (⟨Only.of_below F1 ((Below.refl w1.heap.size w1).drew), HCD.out⟩) (fun hHeld0 => ?_)
  have HS := Lib.hid hHeld0
  clear hHeld0
  refine takeD (i := 0) (some 154) (v := ?_) rfl rfl (by kernel_rfl) (by kernel_rfl) (by kernel_rfl) (fun _ _ _ h => h) (by rfl) HS.out ?_ ?_
  rotate_left
  · intro wx hSx
    clear hSx
    go_simp
    try (with_reducible rfl)
  simp only [Act.put, List.setIfInBounds_toArray, List.set_cons_zero, List.set_cons_succ]
  refine takeD (i := 1) (some 155) (v := ?_) rfl rfl (by kernel_rfl) (by kernel_rfl) (by kernel_rfl) (fun _ _ _ h => h) (by rfl) HS.out ?_ ?_
  rotate_left
  · intro wx hSx
    clear hSx
    go_simp
    try (with_reducible rfl)
  simp only [Act.put, List.setIfInBounds_toArray, List.set_cons_zero, List.set_cons_succ]
  refine takeD (i := 2) (some 156) (v := ?_) rfl rfl (by kernel_rfl) (by kernel_rfl) (by kernel_rfl) (fun _ _ _ h => h) (by rfl) HS.out ?_ ?_
  rotate_left
  · intro wx hSx
    clear hSx
    go_simp
    try (with_reducible rfl)
  simp only [Act.put, List.setIfInBounds_toArray, List.set_cons_zero, List.set_cons_succ]
  refine takeD (i := 3) (some 157) (v := ?_) rfl rfl (by kernel_rfl) (by kernel_rfl) (by kernel_rfl) (fun _ _ _ h => h) (by rfl) HS.out ?_ ?_
  rotate_left
  · intro wx hSx
    clear hSx
    go_simp
    try (with_reducible rfl)
  simp only [Act.put, List.setIfInBounds_toArray, List.set_cons_zero, List.set_cons_succ]
  refine takeD (i := 4) (some 158) (v := ?_) rfl rfl (by kernel_rfl) (by kernel_rfl) (by kernel_rfl) (fun _ _ _ h => h) (by rfl) HS.out ?_ ?_
  rotate_left
  · intro wx hSx
    have c9 := hSx.2
    clear hSx
    go_simp
    try (with_reducible rfl)
  simp only [Act.put, List.setIfInBounds_toArray, List.set_cons_zero, List.set_cons_succ]
  refine takeD (i := 5) (some 159) (v := ?_) rfl rfl (by kernel_rfl) (by kernel_rfl) (by kernel_rfl) (fun _ _ _ h => h) (by rfl) HS.out ?_ ?_
  rotate_left
  · intro wx hSx
    clear hSx
    go_simp
    try (with_reducible rfl)
  simp only [Act.put, List.setIfInBounds_toArray, List.set_cons_zero, List.set_cons_succ]
  refine takeD (i := 6) (some 160) (v := ?_) rfl rfl (by kernel_rfl) (by kernel_rfl) (by kernel_rfl) (fun _ _ _ h => h) (by rfl) HS.out ?_ ?_
  rotate_left
  · intro wx hSx
    obtain ⟨c0, c1, c2, c3, c4⟩ := (HB1.out.box.keeps hSx.1 HB1.out.far).cells
    clear hSx
    go_simp
    try (with_reducible rfl)
  simp only [Act.put, List.setIfInBounds_toArray, List.set_cons_zero, List.set_cons_succ]
  refine takeD (i := 7) (some 161) (v := ?_) rfl rfl (by kernel_rfl) (by kernel_rfl) (by kernel_rfl) (fun _ _ _ h => h) (by rfl) HS.out ?_ ?_
  rotate_left
  · intro wx hSx
    clear hSx
    go_simp
    try (with_reducible rfl)
  simp only [Act.put, List.setIfInBounds_toArray, List.set_cons_zero, List.set_cons_succ]
  refine takeD (i := 8) (some 162) (v := ?_) rfl rfl (by kernel_rfl) (by kernel_rfl) (by kernel_rfl) (fun _ _ _ h => h) (by rfl) HS.out ?_ ?_
  rotate_left
  · intro wx hSx
    obtain ⟨c0, c1, c2, c3, c4⟩ := (HB1.out.box.keeps hSx.1 HB1.out.far).cells
    clear hSx
    go_simp
    try (with_reducible rfl)
  simp only [Act.put, List.setIfInBounds_toArray, List.set_cons_zero, List.set_cons_succ]
  refine takeD (i := 9) (some 163) (v := ?_) rfl rfl (by kernel_rfl) (by kernel_rfl) (by kernel_rfl) (fun _ _ _ h => h) (by rfl) HS.out ?_ ?_
  rotate_left
  · intro wx hSx
    clear hSx
    go_simp
    try (with_reducible rfl)
  simp only [Act.put, List.setIfInBounds_toArray, List.set_cons_zero, List.set_cons_succ]
  refine takeD (i := 10) (some 164) (v := ?_) rfl rfl (by kernel_rfl) (by kernel_rfl) (by kernel_rfl) (fun _ _ _ h => h) (by rfl) HS.out ?_ ?_
  rotate_left
  · intro wx hSx
    obtain ⟨c0, c1, c2, c3, c4⟩ := (HB1.out.box.keeps hSx.1 HB1.out.far).cells
    clear hSx
    go_simp
    try (with_reducible rfl)
  simp only [Act.put, List.setIfInBounds_toArray, List.set_cons_zero, List.set_cons_succ]
  refine wpAnyH_ready (rs := [11]) (by kernel_rfl) (by simp) ?_
  refine AllReadyH.cons rfl (fun K hK => ?_) AllReadyH.nil
  go_simp
  (with_reducible refine (HRW.out).mono ?_)
  rintro e w3 ⟨k, hc3⟩
  have HO3 : Hid (Only F1 w1 w3 ∧ w3.cell? ⟨d, 0, none⟩ = some (.pointer (some ⟨hm, 0, none⟩))) := Lib.hid ⟨(Only.of_below F1 ((Below.refl w1.heap.size w1).drew)).trans k.2.choose_spec.1.1, hc3⟩
  obtain ⟨rfl, F2, hb2⟩ := HE.out.tell k
  clear k hc3
  have HB2 := Lib.hid hb2
  clear hb2
  go_simp
  refine hK.out _ _ ?_ (fun hHeld => ?_)
  · exact HO3.out
  clear hHeld hK K
  try simp only [Act.put, List.setIfInBounds_toArray, List.set_cons_zero, List.set_cons_succ]
  replace HS := HO3
  refine takeD (i := 12) (some 166) (v := ?_) rfl rfl (by kernel_rfl) (by kernel_rfl) (by kernel_rfl) (fun _ _ _ h => h) (by rfl) HS.out ?_ ?_
  rotate_left
  · intro wx hSx
    clear hSx
    go_simp
    try (with_reducible rfl)
  simp only [Act.put, List.setIfInBounds_toArray, List.set_cons_zero, List.set_cons_succ]
  refine takeD (i := 13) (some 6) (v := ?_) rfl rfl (by kernel_rfl) (by kernel_rfl) (by kernel_rfl) (fun _ _ _ h => h) (by rfl) HS.out ?_ ?_
  rotate_left
  · intro wx hSx
    clear hSx
    go_simp
    try (with_reducible rfl)
  simp only [Act.put, List.setIfInBounds_toArray, List.set_cons_zero, List.set_cons_succ]
  refine wpAnyH_done (by kernel_rfl) ?_ _
  go_wp2
  go_ret
  exact HB2.out.done (by omega) (by first | rfl | (show Value.bool _ = _; rw [br]))

set_option maxHeartbeats 4000000 in
theorem both_x (H : Two w F b d N st st) (x : ActV) (n0 : ¬ x.d = 0) (n1 : ¬ x.d = 1) (n2 : ¬ x.d = 2) (n3 : ¬ x.d = 3) (n4 : ¬ x.d = 4) (n6 : ¬ x.d = 6) (n7 : ¬ x.d = 7) : Calls Tryz.prog 21 #[.pointer (some ⟨b, 0, none⟩), .pointer (some ⟨d, 0, none⟩), actV x] w (BothE w F b d N) := by
  obtain ⟨xd, xa, xn, xv, xi⟩ := x
  simp only at n0 n1 n2 n3 n4 n6 n7
  have HB := Lib.hid (Bx.start H ⟨xd, xa, xn, xv, xi⟩)
  clear H
  have e0 : (xd == 0) = false := beq_eq_false_iff_ne.2 n0
  have e1 : (xd == 1) = false := beq_eq_false_iff_ne.2 n1
  have e2 : (xd == 2) = false := beq_eq_false_iff_ne.2 n2
  have e3 : (xd == 3) = false := beq_eq_false_iff_ne.2 n3
  have e4 : (xd == 4) = false := beq_eq_false_iff_ne.2 n4
  have e6 : (xd == 6) = false := beq_eq_false_iff_ne.2 n6
  have e7 : (xd == 7) = false := beq_eq_false_iff_ne.2 n7
  clear n0 n1 n2 n3 n4 n6 n7
  go_enter Tryz.func21, Tryz.ntmps21
  go_wp2
  go_ret
  exact HB.out.done (by omega) rfl
theorem both_any (H : Two w F b d N st st) (hN : N < 900000) (x : ActV) (ha : In64 x.a) (hn : In63 x.n) (hv : In64 x.v) (hi : In63 x.i) : Calls Tryz.prog 21 #[.pointer (some ⟨b, 0, none⟩), .pointer (some ⟨d, 0, none⟩), actV x] w (BothE w F b d N) := by
  by_cases n0 : x.d = 0
  · exact both_0 H hN x ha hn hv hi n0
  by_cases n1 : x.d = 1
  · exact both_1 H hN x ha hn hv hi n1
  by_cases n2 : x.d = 2
  · exact both_2 H hN x ha hn hv hi n2
  by_cases n3 : x.d = 3
  · exact both_3 H hN x ha hn hv hi n3
  by_cases n4 : x.d = 4
  · exact both_4 H hN x ha hn hv hi n4
  by_cases n6 : x.d = 6
  · exact both_6 H hN x ha hn hv hi n6
  by_cases n7 : x.d = 7
  · exact both_7 H hN x ha hn hv hi n7
  exact both_x H x n0 n1 n2 n3 n4 n6 n7

set_option maxHeartbeats 4000000 in
theorem bothN_0 (w : World) (x : ActV) (ha : In64 x.a) (hv : In64 x.v) (hd : x.d = 0) : Calls Tryz.prog 21 #[.pointer none, .pointer none, actV x] w (NoneE w) := by
  obtain ⟨xd, xa, xn, xv, xi⟩ := x
  simp only at ha hv hd
  subst hd
  have hv0 := hv.1
  have HB0 := Lib.hid ((Below.refl w.heap.size w).alloc (Nat.le_refl _) (.cells #[.int .i64 0, .int .u64 xa, .int .i64 xn, .int .u64 xv, .int .i64 xi] 50))
  have HBX : Hid (BoxA (w.alloc (.cells #[.int .i64 0, .int .u64 xa, .int .i64 xn, .int .u64 xv, .int .i64 xi] 50)) w.heap.size ⟨0, xa, xn, xv, xi⟩) := Lib.hid (heap_alloc_new w _)
  go_enter Tryz.func21, Tryz.ntmps21
  go_upto_region 1 with (fail)
  generalize w.alloc (.cells #[.int .i64 0, .int .u64 xa, .int .i64 xn, .int .u64 xv, .int .i64 xi] 50) = w0 at *
  obtain ⟨q, hq⟩ : ∃ q, q = w.heap.size := ⟨_, rfl⟩
  rw [← hq] at HBX
  rw [show w.heap.size = q from hq.symm]
  have HQ := Lib.hid hq
  clear hq ha hv
  obtain ⟨c0, c1, c2, c3, c4⟩ := HBX.out.cells
  go_wp2_with fail
  (with_reducible refine (write_none_bel xa xn xv _).mono ?_)
  rintro e w1 ⟨rfl, hb⟩
  have HB1 := Lib.hid (HB0.out.trans (hb.mono HB0.out.size))
  have HBX1 := Lib.hid (HBX.out.below hb)
  clear hb c0 c1 c2 c3 c4
  obtain ⟨c0, c1, c2, c3, c4⟩ := HBX1.out.cells
  go_wp2_with ((with_reducible refine (refWrite_none_bus xa xn xv _).mono ?_); rintro e w2 ⟨rfl, rfl⟩)
  go_ret
  exact ⟨rfl, HB1.out⟩

set_option maxHeartbeats 4000000 in
theorem bothN_1 (w : World) (x : ActV) (ha : In64 x.a) (hv : In64 x.v) (hd : x.d = 1) : Calls Tryz.prog 21 #[.pointer none, .pointer none, actV x] w (NoneE w) := by
  obtain ⟨xd, xa, xn, xv, xi⟩ := x
  simp only at ha hv hd
  subst hd
  have hv0 := hv.1
  have HB0 := Lib.hid ((Below.refl w.heap.size w).alloc (Nat.le_refl _) (.cells #[.int .i64 1, .int .u64 xa, .int .i64 xn, .int .u64 xv, .int .i64 xi] 50))
  have HBX : Hid (BoxA (w.alloc (.cells #[.int .i64 1, .int .u64 xa, .int .i64 xn, .int .u64 xv, .int .i64 xi] 50)) w.heap.size ⟨1, xa, xn, xv, xi⟩) := Lib.hid (heap_alloc_new w _)
  go_enter Tryz.func21, Tryz.ntmps21
  go_upto_region 1 with (fail)
  generalize w.alloc (.cells #[.int .i64 1, .int .u64 xa, .int .i64 xn, .int .u64 xv, .int .i64 xi] 50) = w0 at *
  obtain ⟨q, hq⟩ : ∃ q, q = w.heap.size := ⟨_, rfl⟩
  rw [← hq] at HBX
  rw [show w.heap.size = q from hq.symm]
  have HQ := Lib.hid hq
  clear hq ha hv
  obtain ⟨c0, c1, c2, c3, c4⟩ := HBX.out.cells
  go_wp2_with (first
    | ((with_reducible refine (read_none_bus xa xn _).mono ?_); rintro e w2 ⟨rfl, rfl⟩)
    | ((with_reducible refine (refRead_none_bus xa xn _).mono ?_); rintro e w2 ⟨rfl, rfl⟩))
  go_ret
  exact ⟨rfl, HB0.out⟩

set_option maxHeartbeats 4000000 in
theorem bothN_3 (w : World) (x : ActV) (ha : In64 x.a) (hv : In64 x.v) (hd : x.d = 3) : Calls Tryz.prog 21 #[.pointer none, .pointer none, actV x] w (NoneE w) := by
  obtain ⟨xd, xa, xn, xv, xi⟩ := x
  simp only at ha hv hd
  subst hd
  have hv0 := hv.1
  have HB0 := Lib.hid ((Below.refl w.heap.size w).alloc (Nat.le_refl _) (.cells #[.int .i64 3, .int .u64 xa, .int .i64 xn, .int .u64 xv, .int .i64 xi] 50))
  have HBX : Hid (BoxA (w.alloc (.cells #[.int .i64 3, .int .u64 xa, .int .i64 xn, .int .u64 xv, .int .i64 xi] 50)) w.heap.size ⟨3, xa, xn, xv, xi⟩) := Lib.hid (heap_alloc_new w _)
  go_enter Tryz.func21, Tryz.ntmps21
  go_upto_region 1 with (fail)
  generalize w.alloc (.cells #[.int .i64 3, .int .u64 xa, .int .i64 xn, .int .u64 xv, .int .i64 xi] 50) = w0 at *
  obtain ⟨q, hq⟩ : ∃ q, q = w.heap.size := ⟨_, rfl⟩
  rw [← hq] at HBX
  rw [show w.heap.size = q from hq.symm]
  have HQ := Lib.hid hq
  clear hq ha hv
  obtain ⟨c0, c1, c2, c3, c4⟩ := HBX.out.cells
  go_wp2_with (first
    | ((with_reducible refine (level_none_bus xi _ _).mono ?_); rintro e w2 ⟨rfl, rfl⟩)
    | ((with_reducible refine (refLevel_none_bus xi _ _).mono ?_); rintro e w2 ⟨rfl, rfl⟩))
  go_ret
  exact ⟨rfl, HB0.out⟩

set_option maxHeartbeats 4000000 in
theorem bothN_4 (w : World) (x : ActV) (ha : In64 x.a) (hv : In64 x.v) (hd : x.d = 4) : Calls Tryz.prog 21 #[.pointer none, .pointer none, actV x] w (NoneE w) := by
  obtain ⟨xd, xa, xn, xv, xi⟩ := x
  simp only at ha hv hd
  subst hd
  have hv0 := hv.1
  have HB0 := Lib.hid ((Below.refl w.heap.size w).alloc (Nat.le_refl _) (.cells #[.int .i64 4, .int .u64 xa, .int .i64 xn, .int .u64 xv, .int .i64 xi] 50))
  have HBX : Hid (BoxA (w.alloc (.cells #[.int .i64 4, .int .u64 xa, .int .i64 xn, .int .u64 xv, .int .i64 xi] 50)) w.heap.size ⟨4, xa, xn, xv, xi⟩) := Lib.hid (heap_alloc_new w _)
  go_enter Tryz.func21, Tryz.ntmps21
  go_upto_region 1 with (fail)
  generalize w.alloc (.cells #[.int .i64 4, .int .u64 xa, .int .i64 xn, .int .u64 xv, .int .i64 xi] 50) = w0 at *
  obtain ⟨q, hq⟩ : ∃ q, q = w.heap.size := ⟨_, rfl⟩
  rw [← hq] at HBX
  rw [show w.heap.size = q from hq.symm]
  have HQ := Lib.hid hq
  clear hq ha hv
  obtain ⟨c0, c1, c2, c3, c4⟩ := HBX.out.cells
  go_wp2_with (first
    | ((with_reducible refine (tick_none_bus xv _).mono ?_); rintro e w2 ⟨⟨u, rfl⟩, rfl⟩)
    | ((with_reducible refine (refTick_none_bus xv _).mono ?_); rintro e w2 ⟨⟨u, rfl⟩, rfl⟩))
  go_ret
  exact ⟨rfl, HB0.out⟩

set_option maxHeartbeats 4000000 in
theorem bothN_7 (w : World) (x : ActV) (ha : In64 x.a) (hv : In64 x.v) (hd : x.d = 7) : Calls Tryz.prog 21 #[.pointer none, .pointer none, actV x] w (NoneE w) := by
  obtain ⟨xd, xa, xn, xv, xi⟩ := x
  simp only at ha hv hd
  subst hd
  have hv0 := hv.1
  have HB0 := Lib.hid ((Below.refl w.heap.size w).alloc (Nat.le_refl _) (.cells #[.int .i64 7, .int .u64 xa, .int .i64 xn, .int .u64 xv, .int .i64 xi] 50))
  have HBX : Hid (BoxA (w.alloc (.cells #[.int .i64 7, .int .u64 xa, .int .i64 xn, .int .u64 xv, .int .i64 xi] 50)) w.heap.size ⟨7, xa, xn, xv, xi⟩) := Lib.hid (heap_alloc_new w _)
  go_enter Tryz.func21, Tryz.ntmps21
  go_upto_region 1 with (fail)
  generalize w.alloc (.cells #[.int .i64 7, .int .u64 xa, .int .i64 xn, .int .u64 xv, .int .i64 xi] 50) = w0 at *
  obtain ⟨q, hq⟩ : ∃ q, q = w.heap.size := ⟨_, rfl⟩
  rw [← hq] at HBX
  rw [show w.heap.size = q from hq.symm]
  have HQ := Lib.hid hq
  clear hq ha hv
  obtain ⟨c0, c1, c2, c3, c4⟩ := HBX.out.cells
  go_wp2
  go_ret
  exact ⟨rfl, HB0.out⟩

set_option maxHeartbeats 4000000 in
theorem bothN_6 (w : World) (x : ActV) (ha : In64 x.a) (hv : In64 x.v) (hd : x.d = 6) : Calls Tryz.prog 21 #[.pointer none, .pointer none, actV x] w (NoneE w) := by
  obtain ⟨xd, xa, xn, xv, xi⟩ := x
  simp only at ha hv hd
  subst hd
  have hv0 := hv.1
  have HB0 := Lib.hid ((Below.refl w.heap.size w).alloc (Nat.le_refl _) (.cells #[.int .i64 6, .int .u64 xa, .int .i64 xn, .int .u64 xv, .int .i64 xi] 50))
  have HBX : Hid (BoxA (w.alloc (.cells #[.int .i64 6, .int .u64 xa, .int .i64 xn, .int .u64 xv, .int .i64 xi] 50)) w.heap.size ⟨6, xa, xn, xv, xi⟩) := Lib.hid (heap_alloc_new w _)
  go_enter Tryz.func21, Tryz.ntmps21
  go_upto_region 1 with (fail)
  generalize w.alloc (.cells #[.int .i64 6, .int .u64 xa, .int .i64 xn, .int .u64 xv, .int .i64 xi] 50) = w0 at *
  obtain ⟨q, hq⟩ : ∃ q, q = w.heap.size := ⟨_, rfl⟩
  rw [← hq] at HBX
  rw [show w.heap.size = q from hq.symm]
  have HQ := Lib.hid hq
  clear hq ha hv
  obtain ⟨c0, c1, c2, c3, c4⟩ := HBX.out.cells
  go_wp2_with fail
  refine wp_region_held_drew (S := fun wx => Below w0.heap.size w0 wx) (by kernel_rfl) ((Below.refl _ _).drew) (fun hHeld0 => ?_)
  have HS := Lib.hid hHeld0
  clear hHeld0
  refine takeD (i := 0) (some 128) (v := ?_) rfl rfl (by kernel_rfl) (by kernel_rfl) (by kernel_rfl) (fun _ _ _ h => h) (by rfl) HS.out ?_ ?_
  rotate_left
  · intro wx hSx
    clear hSx
    go_simp
    try (with_reducible rfl)
  simp only [Act.put, List.setIfInBounds_toArray, List.set_cons_zero, List.set_cons_succ]
  refine takeD (i := 1) (some 129) (v := ?_) rfl rfl (by kernel_rfl) (by kernel_rfl) (by kernel_rfl) (fun _ _ _ h => h) (by rfl) HS.out ?_ ?_
  rotate_left
  · intro wx hSx
    clear hSx
    go_simp
    try (with_reducible rfl)
  simp only [Act.put, List.setIfInBounds_toArray, List.set_cons_zero, List.set_cons_succ]
  refine takeD (i := 2) (some 130) (v := ?_) rfl rfl (by kernel_rfl) (by kernel_rfl) (by kernel_rfl) (fun _ _ _ h => h) (by rfl) HS.out ?_ ?_
  rotate_left
  · intro wx hSx
    obtain ⟨c0, c1, c2, c3, c4⟩ := (HBX.out.below hSx).cells
    clear hSx
    go_simp
    try (with_reducible rfl)
  simp only [Act.put, List.setIfInBounds_toArray, List.set_cons_zero, List.set_cons_succ]
  refine takeD (i := 3) (some 131) (v := ?_) rfl rfl (by kernel_rfl) (by kernel_rfl) (by kernel_rfl) (fun _ _ _ h => h) (by rfl) HS.out ?_ ?_
  rotate_left
  · intro wx hSx
    clear hSx
    go_simp
    try (with_reducible rfl)
  simp only [Act.put, List.setIfInBounds_toArray, List.set_cons_zero, List.set_cons_succ]
  refine takeD (i := 4) (some 132) (v := ?_) rfl rfl (by kernel_rfl) (by kernel_rfl) (by kernel_rfl) (fun _ _ _ h => h) (by rfl) HS.out ?_ ?_
  rotate_left
  · intro wx hSx
    obtain ⟨c0, c1, c2, c3, c4⟩ := (HBX.out.below hSx).cells
    clear hSx
    go_simp
    try (with_reducible rfl)
  simp only [Act.put, List.setIfInBounds_toArray, List.set_cons_zero, List.set_cons_succ]
  refine takeD (i := 6) (some 134) (v := ?_) rfl rfl (by kernel_rfl) (by kernel_rfl) (by kernel_rfl) (fun _ _ _ h => h) (by rfl) HS.out ?_ ?_
  rotate_left
  · intro wx hSx
    clear hSx
    go_simp
    try (with_reducible rfl)
  simp only [Act.put, List.setIfInBounds_toArray, List.set_cons_zero, List.set_cons_succ]
  refine takeD (i := 7) (some 135) (v := ?_) rfl rfl (by kernel_rfl) (by kernel_rfl) (by kernel_rfl) (fun _ _ _ h => h) (by rfl) HS.out ?_ ?_
  rotate_left
  · intro wx hSx
    clear hSx
    go_simp
    try (with_reducible rfl)
  simp only [Act.put, List.setIfInBounds_toArray, List.set_cons_zero, List.set_cons_succ]
  refine takeD (i := 8) (some 136) (v := ?_) rfl rfl (by kernel_rfl) (by kernel_rfl) (by kernel_rfl) (fun _ _ _ h => h) (by rfl) HS.out ?_ ?_
  rotate_left
  · intro wx hSx
    obtain ⟨c0, c1, c2, c3, c4⟩ := (HBX.out.below hSx).cells
    clear hSx
    go_simp
    try (with_reducible rfl)
  simp only [Act.put, List.setIfInBounds_toArray, List.set_cons_zero, List.set_cons_succ]
  refine takeD (i := 9) (some 137) (v := ?_) rfl rfl (by kernel_rfl) (by kernel_rfl) (by kernel_rfl) (fun _ _ _ h => h) (by rfl) HS.out ?_ ?_
  rotate_left
  · intro wx hSx
    clear hSx
    go_simp
    try (with_reducible rfl)
  simp only [Act.put, List.setIfInBounds_toArray, List.set_cons_zero, List.set_cons_succ]
  refine takeD (i := 10) (some 138) (v := ?_) rfl rfl (by kernel_rfl) (by kernel_rfl) (by kernel_rfl) (fun _ _ _ h => h) (by rfl) HS.out ?_ ?_
  rotate_left
  · intro wx hSx
    obtain ⟨c0, c1, c2, c3, c4⟩ := (HBX.out.below hSx).cells
    clear hSx
    go_simp
    try (with_reducible rfl)
  simp only [Act.put, List.setIfInBounds_toArray, List.set_cons_zero, List.set_cons_succ]
  refine wpAnyH_ready (rs := [5]) (by kernel_rfl) (by simp) ?_
  refine AllReadyH.cons rfl (fun K hK => ?_) AllReadyH.nil
  go_simp
  (with_reducible refine (isRam_none_bus xa xn _).mono ?_)
  rintro e wz ⟨rfl, rfl⟩
  go_simp
  refine hK.out _ _ ?_ (fun hHeld => ?_)
  · exact HS.out
  clear hHeld hK K
  try simp only [Act.put, List.setIfInBounds_toArray, List.set_cons_zero, List.set_cons_succ]
  refine wpAnyH_ready (rs := [11]) (by kernel_rfl) (by simp) ?_
  refine AllReadyH.cons rfl (fun K hK => ?_) AllReadyH.nil
  go_simp
  (with_reducible refine (refIsRam_none_bus xa xn _).mono ?_)
  rintro e wz ⟨rfl, rfl⟩
  go_simp
  refine hK.out _ _ ?_ (fun hHeld => ?_)
  · exact HS.out
  clear hHeld hK K
  try simp only [Act.put, List.setIfInBounds_toArray, List.set_cons_zero, List.set_cons_succ]
  refine takeD (i := 12) (some 140) (v := ?_) rfl rfl (by kernel_rfl) (by kernel_rfl) (by kernel_rfl) (fun _ _ _ h => h) (by rfl) HS.out ?_ ?_
  rotate_left
  · intro wx hSx
    clear hSx
    go_simp
    try (with_reducible rfl)
  simp only [Act.put, List.setIfInBounds_toArray, List.set_cons_zero, List.set_cons_succ]
  refine takeD (i := 13) (some 6) (v := ?_) rfl rfl (by kernel_rfl) (by kernel_rfl) (by kernel_rfl) (fun _ _ _ h => h) (by rfl) HS.out ?_ ?_
  rotate_left
  · intro wx hSx
    clear hSx
    go_simp
    try (with_reducible rfl)
  simp only [Act.put, List.setIfInBounds_toArray, List.set_cons_zero, List.set_cons_succ]
  refine wpAnyH_done (by kernel_rfl) ?_ _
  go_wp2
  go_ret
  exact ⟨rfl, HB0.out.trans (HS.out.mono HB0.out.size)⟩

set_option maxHeartbeats 4000000 in
theorem bothN_2 (w : World) (x : ActV) (ha : In64 x.a) (hv : In64 x.v) (hd : x.d = 2) : Calls Tryz.prog 21 #[.pointer none, .pointer none, actV x] w (NoneE w) := by
  obtain ⟨xd, xa, xn, xv, xi⟩ := x
  simp only at ha hv hd
  subst hd
  have hv0 := hv.1
  have HB0 := Lib.hid ((Below.refl w.heap.size w).alloc (Nat.le_refl _) (.cells #[.int .i64 2, .int .u64 xa, .int .i64 xn, .int .u64 xv, .int .i64 xi] 50))
  have HBX : Hid (BoxA (w.alloc (.cells #[.int .i64 2, .int .u64 xa, .int .i64 xn, .int .u64 xv, .int .i64 xi] 50)) w.heap.size ⟨2, xa, xn, xv, xi⟩) := Lib.hid (heap_alloc_new w _)
  go_enter Tryz.func21, Tryz.ntmps21
  go_upto_region 1 with (fail)
  generalize w.alloc (.cells #[.int .i64 2, .int .u64 xa, .int .i64 xn, .int .u64 xv, .int .i64 xi] 50) = w0 at *
  obtain ⟨q, hq⟩ : ∃ q, q = w.heap.size := ⟨_, rfl⟩
  rw [← hq] at HBX
  rw [show w.heap.size = q from hq.symm]
  have HQ := Lib.hid hq
  clear hq ha hv
  obtain ⟨c0, c1, c2, c3, c4⟩ := HBX.out.cells
  obtain ⟨sO, hsO⟩ : ∃ s, s = strOfNums [] := ⟨_, rfl⟩
  have HSO := Lib.hid hsO
  clear hsO
  have bo : (sO.toList == sO.toList) = true := by simp
  go_wp2_with ((with_reducible refine (feed_none_bus xi (xv % 256) _).mono ?_); rintro e w2 ⟨rfl, rfl⟩)
  refine wp_region_held_drew (S := fun wx => Below w0.heap.size w0 wx) (by kernel_rfl) ((Below.refl _ _).drew) (fun hHeld0 => ?_)
  have HS := Lib.hid hHeld0
  clear hHeld0
  refine takeD (i := 0) (some 74) (v := ?_) rfl rfl (by kernel_rfl) (by kernel_rfl) (by kernel_rfl) (fun _ _ _ h => h) (by rfl) HS.out ?_ ?_
  rotate_left
  · intro wx hSx
    clear hSx
    go_simp
    try (with_reducible rfl)
  simp only [Act.put, List.setIfInBounds_toArray, List.set_cons_zero, List.set_cons_succ]
  refine takeD (i := 1) (some 75) (v := ?_) rfl rfl (by kernel_rfl) (by kernel_rfl) (by kernel_rfl) (fun _ _ _ h => h) (by rfl) HS.out ?_ ?_
  rotate_left
  · intro wx hSx
    clear hSx
    go_simp
    try (with_reducible rfl)
  simp only [Act.put, List.setIfInBounds_toArray, List.set_cons_zero, List.set_cons_succ]
  refine takeD (i := 2) (some 76) (v := ?_) rfl rfl (by kernel_rfl) (by kernel_rfl) (by kernel_rfl) (fun _ _ _ h => h) (by rfl) HS.out ?_ ?_
  rotate_left
  · intro wx hSx
    clear hSx
    go_simp
    try (with_reducible rfl)
  simp only [Act.put, List.setIfInBounds_toArray, List.set_cons_zero, List.set_cons_succ]
  refine takeD (i := 3) (some 77) (v := ?_) rfl rfl (by kernel_rfl) (by kernel_rfl) (by kernel_rfl) (fun _ _ _ h => h) (by rfl) HS.out ?_ ?_
  rotate_left
  · intro wx hSx
    obtain ⟨c0, c1, c2, c3, c4⟩ := (HBX.out.below hSx).cells
    clear hSx
    go_simp
    try (with_reducible rfl)
  simp only [Act.put, List.setIfInBounds_toArray, List.set_cons_zero, List.set_cons_succ]
  refine takeD (i := 4) (some 78) (v := ?_) rfl rfl (by kernel_rfl) (by kernel_rfl) (by kernel_rfl) (fun _ _ _ h => h) (by rfl) HS.out ?_ ?_
  rotate_left
  · intro wx hSx
    clear hSx
    go_simp
    try (with_reducible rfl)
  simp only [Act.put, List.setIfInBounds_toArray, List.set_cons_zero, List.set_cons_succ]
  refine takeD (i := 5) (some 79) (v := ?_) rfl rfl (by kernel_rfl) (by kernel_rfl) (by kernel_rfl) (fun _ _ _ h => h) (by rfl) HS.out ?_ ?_
  rotate_left
  · intro wx hSx
    obtain ⟨c0, c1, c2, c3, c4⟩ := (HBX.out.below hSx).cells
    clear hSx
    go_simp
    try (with_reducible rfl)
  simp only [Act.put, List.setIfInBounds_toArray, List.set_cons_zero, List.set_cons_succ]
  refine takeD (i := 6) (some 80) (v := ?_) rfl rfl (by kernel_rfl) (by kernel_rfl) (by kernel_rfl) (fun _ _ _ h => h) (by rfl) HS.out ?_ ?_
  rotate_left
  · intro wx hSx
    clear hSx
    go_simp
    try (with_reducible rfl)
  simp only [Act.put, List.setIfInBounds_toArray, List.set_cons_zero, List.set_cons_succ]
  refine wpAnyH_ready (rs := [7]) (by kernel_rfl) (by simp) ?_
  refine AllReadyH.cons rfl (fun K hK => ?_) AllReadyH.nil
  go_simp
  (with_reducible refine (refFeed_none_bus xi _ _).mono ?_)
  rintro e wz ⟨rfl, rfl⟩
  go_simp
  refine hK.out _ _ ?_ (fun hHeld => ?_)
  · exact HS.out
  clear hHeld hK K
  try simp only [Act.put, List.setIfInBounds_toArray, List.set_cons_zero, List.set_cons_succ]
  refine takeD (i := 8) (some 82) (v := ?_) rfl rfl (by kernel_rfl) (by kernel_rfl) (by kernel_rfl) (fun _ _ _ h => h) (by rfl) HS.out ?_ ?_
  rotate_left
  · intro wx hSx
    clear hSx
    go_simp
    try (with_reducible rfl)
  simp only [Act.put, List.setIfInBounds_toArray, List.set_cons_zero, List.set_cons_succ]
  refine takeD (i := 9) (some 83) (v := ?_) rfl rfl (by kernel_rfl) (by kernel_rfl) (by kernel_rfl) (fun _ _ _ h => h) (by rfl) HS.out ?_ ?_
  rotate_left
  · intro wx hSx
    clear hSx
    go_simp
    try (with_reducible rfl)
  simp only [Act.put, List.setIfInBounds_toArray, List.set_cons_zero, List.set_cons_succ]
  refine takeD (i := 10) (some 84) (v := ?_) rfl rfl (by kernel_rfl) (by kernel_rfl) (by kernel_rfl) (fun _ _ _ h => h) (by rfl) HS.out ?_ ?_
  rotate_left
  · intro wx hSx
    clear hSx
    go_simp
    try (with_reducible rfl)
  simp only [Act.put, List.setIfInBounds_toArray, List.set_cons_zero, List.set_cons_succ]
  refine takeD (i := 11) (some 85) (v := ?_) rfl rfl (by kernel_rfl) (by kernel_rfl) (by kernel_rfl) (fun _ _ _ h => h) (by rfl) HS.out ?_ ?_
  rotate_left
  · intro wx hSx
    clear hSx
    go_simp
    try (with_reducible rfl)
  simp only [Act.put, List.setIfInBounds_toArray, List.set_cons_zero, List.set_cons_succ]
  refine takeD (i := 12) (some 86) (v := ?_) rfl rfl (by kernel_rfl) (by kernel_rfl) (by kernel_rfl) (fun _ _ _ h => h) (by rfl) HS.out ?_ ?_
  rotate_left
  · intro wx hSx
    obtain ⟨c0, c1, c2, c3, c4⟩ := (HBX.out.below hSx).cells
    clear hSx
    go_simp
    try (with_reducible rfl)
  simp only [Act.put, List.setIfInBounds_toArray, List.set_cons_zero, List.set_cons_succ]
  refine takeD (i := 15) (some 89) (v := ?_) rfl rfl (by kernel_rfl) (by kernel_rfl) (by kernel_rfl) (fun _ _ _ h => h) (by rfl) HS.out ?_ ?_
  rotate_left
  · intro wx hSx
    clear hSx
    go_simp
    try (with_reducible rfl)
  simp only [Act.put, List.setIfInBounds_toArray, List.set_cons_zero, List.set_cons_succ]
  refine takeD (i := 16) (some 90) (v := ?_) rfl rfl (by kernel_rfl) (by kernel_rfl) (by kernel_rfl) (fun _ _ _ h => h) (by rfl) HS.out ?_ ?_
  rotate_left
  · intro wx hSx
    clear hSx
    go_simp
    try (with_reducible rfl)
  simp only [Act.put, List.setIfInBounds_toArray, List.set_cons_zero, List.set_cons_succ]
  refine takeD (i := 17) (some 91) (v := ?_) rfl rfl (by kernel_rfl) (by kernel_rfl) (by kernel_rfl) (fun _ _ _ h => h) (by rfl) HS.out ?_ ?_
  rotate_left
  · intro wx hSx
    obtain ⟨c0, c1, c2, c3, c4⟩ := (HBX.out.below hSx).cells
    clear hSx
    go_simp
    try (with_reducible rfl)
  simp only [Act.put, List.setIfInBounds_toArray, List.set_cons_zero, List.set_cons_succ]
  refine wpAnyH_ready (rs := [13]) (by kernel_rfl) (by simp) ?_
  refine AllReadyH.cons rfl (fun K hK => ?_) AllReadyH.nil
  go_simp
  (with_reducible refine (out_none_bus xi _).mono ?_)
  rintro e w5 ⟨a5, k5, rfl, hb5, hr5⟩
  have HB5 : Hid (Below w0.heap.size w0 w5) := Lib.hid (HS.out.trans (hb5.mono HS.out.size))
  have HC5 : Hid (∀ wx, Below w5.heap.size w5 wx → (convert 40 9 (.slice a5 0 k5)).run Tryz.prog wx = .ok (.string sO) wx) := Lib.hid fun wx hx => by rw [HSO.out]; exact U6.conv_row (hr5.below hx) (by decide)
  have HX5 := Lib.hid hb5
  clear hb5 hr5
  go_simp
  refine hK.out _ _ ?_ (fun hHeld => ?_)
  · exact HS.out.trans (HX5.out.mono HS.out.size)
  clear hHeld hK K
  try simp only [Act.put, List.setIfInBounds_toArray, List.set_cons_zero, List.set_cons_succ]
  refine wpAnyH_more (T := fun wx => Below w5.heap.size w5 wx) (fun wx hx => HB5.out.trans (hx.mono HB5.out.size)) _ _ _ _ ?_
  replace HS : Hid (Below w5.heap.size w5 w5) := Lib.hid (Below.refl _ _)
  refine takeD (i := 14) (some 88) (v := ?_) rfl rfl (by kernel_rfl) (by kernel_rfl) (by kernel_rfl) (fun _ _ _ h => h) (by rfl) HS.out ?_ ?_
  rotate_left
  · intro wx hSx
    have hcv := HC5.out wx hSx
    clear hSx
    go_simp
    try (with_reducible rfl)
  simp only [Act.put, List.setIfInBounds_toArray, List.set_cons_zero, List.set_cons_succ]
  refine wpAnyH_ready (rs := [18]) (by kernel_rfl) (by simp) ?_
  refine AllReadyH.cons rfl (fun K hK => ?_) AllReadyH.nil
  go_simp
  (with_reducible refine (refOut_none_bus xi _).mono ?_)
  rintro e w7 ⟨a7, k7, rfl, hb5, hr5⟩
  have HB7 : Hid (Below w0.heap.size w0 w7) := Lib.hid ((HB5.out.trans (HS.out.mono HB5.out.size)).trans (hb5.mono (HB5.out.trans (HS.out.mono HB5.out.size)).size))
  have HC7 : Hid (∀ wx, Below w7.heap.size w7 wx → (convert 40 9 (.slice a7 0 k7)).run Tryz.prog wx = .ok (.string sO) wx) := Lib.hid fun wx hx => by rw [HSO.out]; exact U6.conv_row (hr5.below hx) (by decide)
  have HX7 := Lib.hid hb5
  clear hb5 hr5
  go_simp
  refine hK.out _ _ ?_ (fun hHeld => ?_)
  · exact HS.out.trans (HX7.out.mono HS.out.size)
  clear hHeld hK K
  try simp only [Act.put, List.setIfInBounds_toArray, List.set_cons_zero, List.set_cons_succ]
  refine wpAnyH_more (T := fun wx => Below w7.heap.size w7 wx) (fun wx hx => HX7.out.trans (hx.mono HX7.out.size)) _ _ _ _ ?_
  replace HS : Hid (Below w7.heap.size w7 w7) := Lib.hid (Below.refl _ _)
  refine takeD (i := 19) (some 93) (v := ?_) rfl rfl (by kernel_rfl) (by kernel_rfl) (by kernel_rfl) (fun _ _ _ h => h) (by rfl) HS.out ?_ ?_
  rotate_left
  · intro wx hSx
    have hcv := HC7.out wx hSx
    clear hSx
    go_simp
    try (with_reducible rfl)
  simp only [Act.put, List.setIfInBounds_toArray, List.set_cons_zero, List.set_cons_succ]
  refine takeD (i := 20) (some 94) (v := ?_) rfl rfl (by kernel_rfl) (by kernel_rfl) (by kernel_rfl) (fun _ _ _ h => h) (by rfl) HS.out ?_ ?_
  rotate_left
  · intro wx hSx
    clear hSx
    go_simp
    try (with_reducible rfl)
  simp only [Act.put, List.setIfInBounds_toArray, List.set_cons_zero, List.set_cons_succ]
  refine takeD (i := 21) (some 95) (v := ?_) rfl rfl (by kernel_rfl) (by kernel_rfl) (by kernel_rfl) (fun _ _ _ h => h) (by rfl) HS.out ?_ ?_
  rotate_left
  · intro wx hSx
    clear hSx
    go_simp
    try (with_reducible rfl)
  simp only [Act.put, List.setIfInBounds_toArray, List.set_cons_zero, List.set_cons_succ]
  refine takeD (i := 22) (some 6) (v := ?_) rfl rfl (by kernel_rfl) (by kernel_rfl) (by kernel_rfl) (fun _ _ _ h => h) (by rfl) HS.out ?_ ?_
  rotate_left
  · intro wx hSx
    clear hSx
    go_simp
    try (with_reducible rfl)
  simp only [Act.put, List.setIfInBounds_toArray, List.set_cons_zero, List.set_cons_succ]
  refine wpAnyH_done (by kernel_rfl) ?_ _
  go_wp2
  go_ret
  exact ⟨rfl, HB0.out.trans (HB7.out.mono HB0.out.size)⟩

set_option maxHeartbeats 4000000 in
theorem bothN_x (w : World) (x : ActV) (n0 : ¬ x.d = 0) (n1 : ¬ x.d = 1) (n2 : ¬ x.d = 2) (n3 : ¬ x.d = 3) (n4 : ¬ x.d = 4) (n6 : ¬ x.d = 6) (n7 : ¬ x.d = 7) : Calls Tryz.prog 21 #[.pointer none, .pointer none, actV x] w (NoneE w) := by
  obtain ⟨xd, xa, xn, xv, xi⟩ := x
  simp only at n0 n1 n2 n3 n4 n6 n7
  have e0 : (xd == 0) = false := beq_eq_false_iff_ne.2 n0
  have e1 : (xd == 1) = false := beq_eq_false_iff_ne.2 n1
  have e2 : (xd == 2) = false := beq_eq_false_iff_ne.2 n2
  have e3 : (xd == 3) = false := beq_eq_false_iff_ne.2 n3
  have e4 : (xd == 4) = false := beq_eq_false_iff_ne.2 n4
  have e6 : (xd == 6) = false := beq_eq_false_iff_ne.2 n6
  have e7 : (xd == 7) = false := beq_eq_false_iff_ne.2 n7
  clear n0 n1 n2 n3 n4 n6 n7
  go_enter Tryz.func21, Tryz.ntmps21
  go_wp2
  go_ret
  exact ⟨rfl, (Below.refl _ _).alloc (Nat.le_refl _) _⟩
theorem both_none (w : World) (x : ActV) (ha : In64 x.a) (hv : In64 x.v) : Calls Tryz.prog 21 #[.pointer none, .pointer none, actV x] w (NoneE w) := by
  by_cases n0 : x.d = 0
  · exact bothN_0 w x ha hv n0
  by_cases n1 : x.d = 1
  · exact bothN_1 w x ha hv n1
  by_cases n2 : x.d = 2
  · exact bothN_2 w x ha hv n2
  by_cases n3 : x.d = 3
  · exact bothN_3 w x ha hv n3
  by_cases n4 : x.d = 4
  · exact bothN_4 w x ha hv n4
  by_cases n6 : x.d = 6
  · exact bothN_6 w x ha hv n6
  by_cases n7 : x.d = 7
  · exact bothN_7 w x ha hv n7
  exact bothN_x w x n0 n1 n2 n3 n4 n6 n7

end
end Go.Proofs.YtbcnkhfpogglmaaGreatDoor

namespace Go.Proofs.YtbcnkhfpogglmaaGreatDoor.P5
open Go.RowKit M3
set_option linter.unusedVariables false
set_option maxRecDepth 100000

theorem extract_varr (n : Nat) (f : Nat → Value) (a k : Nat) (h : a + k ≤ n) : (varr n f).extract a (a + k) = varr k fun i => f (a + i) := by
  unfold varr
  apply Array.ext'
  simp only [List.extract_toArray]
  apply List.ext_getElem?
  intro i
  simp only [List.extract_eq_take_drop, List.getElem?_take, List.getElem?_drop, List.getElem?_map, List.getElem?_range]
  by_cases hi : i < k
  · rw [if_pos (by omega)]
    rw [List.getElem?_range (by omega), List.getElem?_range hi]; rfl
  · rw [if_neg (by omega), List.getElem?_eq_none (by simp; omega)]; rfl

section
variable {P : Program} (w : World)
theorem run_part_one {e : TypeId} (ha : (isAgg e).run P w = .ok false w) {n : Nat} {f : Nat → Value} {i : Nat} (h : i < n) : (part e (varr n f) i).run P w = .ok (f i) w := by
  simp [part, ha, varr_get n f i h]
theorem run_part_row {e : TypeId} {k : Nat} (ha : (isAgg e).run P w = .ok true w) (hs : (sizeOf e).run P w = .ok k w) {n : Nat} {f : Nat → Value} {i : Nat} (h : i + k ≤ n) : (part e (varr n f) i).run P w = .ok (.agg (varr k fun j => f (i + j))) w := by
  simp [part, ha, hs, extract_varr n f i k h]
/-- '==' of two arrays, where the elements' is known. -/
theorem run_alls {d : Nat} {e : TypeId} {sz : Nat} (xs ys : Array Value) (q : Nat → Bool) (l : List Nat)
    (h : ∀ i ∈ l, ∃ x y, (part e xs (i * sz)).run P w = .ok x w ∧ (part e ys (i * sz)).run P w = .ok y w ∧ (Op.equalIn d e x y).run P w = .ok (q i) w) :
    ((forIn l ((none, ()) : Option Bool × Unit) fun i _ => do
        let x ← part e xs (i * sz)
        let y ← part e ys (i * sz)
        let r ← Op.equalIn d e x y
        if (!r) = true then pure (ForInStep.done (some false, ())) else pure (ForInStep.yield (none, ()))).run P w) =
      .ok (if l.all q = true then (none, ()) else (some false, ())) w := by
  induction l with
  | nil => simp
  | cons i l ih =>
    obtain ⟨x, y, h1, h2, h3⟩ := h i (by simp)
    have ih := ih fun j hj => h j (by simp [hj])
    rw [List.forIn_cons]
    simp only [Sem.run_bind, h1, h2, h3, Result.andThen_ok]
    cases hc : q i
    · simp [hc]
    · simp only [Bool.not_true, Bool.false_eq_true, if_false, Sem.run_pure, Result.andThen_ok, List.all_cons, hc, Bool.true_and]
      exact ih
theorem run_equalIn_arr {d : Nat} {t e : TypeId} {n sz : Nat} (ht : P.underlying t = some (.array n e)) (hs : (sizeOf e).run P w = .ok sz w) (xs ys : Array Value) (q : Nat → Bool)
    (h : ∀ i, i < n → ∃ x y, (part e xs (i * sz)).run P w = .ok x w ∧ (part e ys (i * sz)).run P w = .ok y w ∧ (Op.equalIn d e x y).run P w = .ok (q i) w) :
    (Op.equalIn (d + 1) t (.agg xs) (.agg ys)).run P w = .ok ((List.range n).all q) w := by
  rw [Op.equalIn]
  simp only [Sem.run_bind, run_underlying ht, Result.andThen_ok, hs]
  rw [Std.Legacy.Range.forIn_eq_forIn_range']
  simp only [Std.Legacy.Range.size]
  have e1 : (n - 0 + 1 - 1) / 1 = n := by simp
  rw [e1, ← List.range_eq_range', run_alls w xs ys q (List.range n) fun i hi => h i (List.mem_range.1 hi), Result.andThen_ok]
  cases (List.range n).all q <;> simp
/-- '==' of two structs, field by field. -/
theorem run_fields_nil (d : Nat) (xs ys : Array Value) : (Op.eqFields d xs ys []).run P w = .ok true w := rfl
theorem run_fields_cons {d : Nat} {xs ys : Array Value} {f : Field} {fs : List Field} {x y : Value} {r s : Bool} (hn : f.name ≠ "_") (h1 : (part f.type xs f.offset).run P w = .ok x w) (h2 : (part f.type ys f.offset).run P w = .ok y w)
    (h3 : (Op.equalIn d f.type x y).run P w = .ok r w) (h4 : (Op.eqFields d xs ys fs).run P w = .ok s w) : (Op.eqFields d xs ys (f :: fs)).run P w = .ok (r && s) w := by
  unfold Op.eqFields
  rw [if_pos hn]
  simp only [Sem.run_bind, h1, h2, h3, Result.andThen_ok]
  cases r
  · simp
  · simp [h4]
end

def eqQ (t u : PS) : Bool :=
  (bits32 t.up == bits32 u.up) && ((bits32 t.pend == bits32 u.pend) && ((bits32 t.busy == bits32 u.busy) && (((List.range 32).all fun s => t.prio s == u.prio s) && (((List.range 2).all fun c => bits32 (fun s => t.on s c) == bits32 (fun s => u.on s c)) && (((List.range 2).all fun c => t.floor c == u.floor c) && true)))))
theorem eq_prog (t u : PS) (w : World) : (Op.equalIn 10000 69 (.agg (varr 39 (cellQ t))) (.agg (varr 39 (cellQ u)))).run Tryz.prog w = .ok (eqQ t u) w := by
  rw [run_equalIn_struct w 9999 69 _ _ (by kernel_rfl) (by kernel_rfl)]
  simp only [Program.fieldsOf, Tryz.underlying69]
  have a22 : ∀ w, (isAgg 64).run Tryz.prog w = .ok false w := fun _ => by kernel_rfl
  have a5 : ∀ w, (isAgg 5).run Tryz.prog w = .ok false w := fun _ => by kernel_rfl
  have s22 : ∀ w, (sizeOf 64).run Tryz.prog w = .ok 1 w := fun _ => by kernel_rfl
  have s5 : ∀ w, (sizeOf 5).run Tryz.prog w = .ok 1 w := fun _ => by kernel_rfl
  unfold eqQ
  refine run_fields_cons w (by decide) (run_part_one w (a22 w) (by decide)) (run_part_one w (a22 w) (by decide)) (run_equalIn_int w 9998 _ .u32 .u32 _ _ Tryz.underlying64) ?_
  refine run_fields_cons w (by decide) (run_part_one w (a22 w) (by decide)) (run_part_one w (a22 w) (by decide)) (run_equalIn_int w 9998 _ .u32 .u32 _ _ Tryz.underlying64) ?_
  refine run_fields_cons w (by decide) (run_part_one w (a22 w) (by decide)) (run_part_one w (a22 w) (by decide)) (run_equalIn_int w 9998 _ .u32 .u32 _ _ Tryz.underlying64) ?_
  refine run_fields_cons w (by decide) (run_part_row w (k := 32) (by kernel_rfl) (by kernel_rfl) (by decide)) (run_part_row w (k := 32) (by kernel_rfl) (by kernel_rfl) (by decide))
    (run_equalIn_arr w Tryz.underlying65 (s5 w) _ _ _ fun i hi => ⟨.int .u8 (t.prio i), .int .u8 (u.prio i), ?_, ?_, run_equalIn_int w 9997 _ .u8 .u8 _ _ Tryz.underlying5⟩) ?_
  · rw [Nat.mul_one, run_part_one w (a5 w) hi, cellQ_prio t hi]
  · rw [Nat.mul_one, run_part_one w (a5 w) hi, cellQ_prio u hi]
  refine run_fields_cons w (by decide) (run_part_row w (k := 2) (by kernel_rfl) (by kernel_rfl) (by decide)) (run_part_row w (k := 2) (by kernel_rfl) (by kernel_rfl) (by decide))
    (run_equalIn_arr w Tryz.underlying66 (s22 w) _ _ _ fun i hi => ⟨.int .u32 (bits32 fun s => t.on s i), .int .u32 (bits32 fun s => u.on s i), ?_, ?_, run_equalIn_int w 9997 _ .u32 .u32 _ _ Tryz.underlying64⟩) ?_
  · rw [Nat.mul_one, run_part_one w (a22 w) hi, cellQ_on t hi]
  · rw [Nat.mul_one, run_part_one w (a22 w) hi, cellQ_on u hi]
  refine run_fields_cons w (by decide) (run_part_row w (k := 2) (by kernel_rfl) (by kernel_rfl) (by decide)) (run_part_row w (k := 2) (by kernel_rfl) (by kernel_rfl) (by decide))
    (run_equalIn_arr w Tryz.underlying67 (s5 w) _ _ _ fun i hi => ⟨.int .u8 (t.floor i), .int .u8 (u.floor i), ?_, ?_, run_equalIn_int w 9997 _ .u8 .u8 _ _ Tryz.underlying5⟩) ?_
  · rw [Nat.mul_one, run_part_one w (a5 w) hi, cellQ_floor t hi]
  · rw [Nat.mul_one, run_part_one w (a5 w) hi, cellQ_floor u hi]
  exact run_fields_nil w _ _ _

def eqS (t u : PS) (s : Nat) : Bool := (t.prio s == u.prio s) && ((t.up s == u.up s) && ((t.pend s == u.pend s) && ((t.busy s == u.busy s) && (((List.range 2).all fun c => t.on s c == u.on s c) && true))))
def eqR (t u : PS) : Bool := ((List.range 32).all fun s => eqS t u s) && (((List.range 2).all fun c => t.floor c == u.floor c) && true)
theorem srcCell_on (t : PS) (s : Nat) {c : Nat} (hc : c < 2) : srcCell t s (4 + c) = .bool (t.on s c) := by
  have : c = 0 ∨ c = 1 := by omega
  rcases this with rfl | rfl <;> rfl
theorem eq_src (t u : PS) (s : Nat) (w : World) : (Op.equalIn 9998 100 (.agg (varr 6 (srcCell t s))) (.agg (varr 6 (srcCell u s)))).run Tryz.prog w = .ok (eqS t u s) w := by
  rw [run_equalIn_struct w 9997 100 _ _ (by kernel_rfl) (by kernel_rfl)]
  simp only [Program.fieldsOf, Tryz.underlying100]
  have a30 : ∀ w, (isAgg 26).run Tryz.prog w = .ok false w := fun _ => by kernel_rfl
  have a4 : ∀ w, (isAgg 4).run Tryz.prog w = .ok false w := fun _ => by kernel_rfl
  have s4 : ∀ w, (sizeOf 4).run Tryz.prog w = .ok 1 w := fun _ => by kernel_rfl
  unfold eqS
  refine run_fields_cons w (by decide) (run_part_one w (a30 w) (by decide)) (run_part_one w (a30 w) (by decide)) (run_equalIn_int w 9996 _ .u64 .u64 _ _ Tryz.underlying26) ?_
  refine run_fields_cons w (by decide) (run_part_one w (a4 w) (by decide)) (run_part_one w (a4 w) (by decide)) (run_equalIn_bool' w 9996 _ _ _ Tryz.underlying4) ?_
  refine run_fields_cons w (by decide) (run_part_one w (a4 w) (by decide)) (run_part_one w (a4 w) (by decide)) (run_equalIn_bool' w 9996 _ _ _ Tryz.underlying4) ?_
  refine run_fields_cons w (by decide) (run_part_one w (a4 w) (by decide)) (run_part_one w (a4 w) (by decide)) (run_equalIn_bool' w 9996 _ _ _ Tryz.underlying4) ?_
  refine run_fields_cons w (by decide) (run_part_row w (k := 2) (by kernel_rfl) (by kernel_rfl) (by decide)) (run_part_row w (k := 2) (by kernel_rfl) (by kernel_rfl) (by decide))
    (run_equalIn_arr w Tryz.underlying98 (s4 w) _ _ _ fun i hi => ⟨.bool (t.on s i), .bool (u.on s i), ?_, ?_, run_equalIn_bool' w 9995 _ _ _ Tryz.underlying4⟩) ?_
  · rw [Nat.mul_one, run_part_one w (a4 w) hi, srcCell_on t s hi]
  · rw [Nat.mul_one, run_part_one w (a4 w) hi, srcCell_on u s hi]
  exact run_fields_nil w _ _ _
theorem cellR_row (t : PS) {s : Nat} (hs : s < 32) : (varr 6 fun j => cellR t (s * 6 + j)) = varr 6 (srcCell t s) := varr_congr fun j hj => cellR_src t hs hj
theorem eq_ref (t u : PS) (w : World) : (Op.equalIn 10000 104 (.agg (varr 194 (cellR t))) (.agg (varr 194 (cellR u)))).run Tryz.prog w = .ok (eqR t u) w := by
  rw [run_equalIn_struct w 9999 104 _ _ (by kernel_rfl) (by kernel_rfl)]
  simp only [Program.fieldsOf, Tryz.underlying104]
  have a30 : ∀ w, (isAgg 26).run Tryz.prog w = .ok false w := fun _ => by kernel_rfl
  have s30 : ∀ w, (sizeOf 26).run Tryz.prog w = .ok 1 w := fun _ => by kernel_rfl
  have aS : ∀ w, (isAgg 100).run Tryz.prog w = .ok true w := fun _ => by kernel_rfl
  have sS : ∀ w, (sizeOf 100).run Tryz.prog w = .ok 6 w := fun _ => by kernel_rfl
  unfold eqR
  refine run_fields_cons w (by decide) (run_part_row w (k := 192) (by kernel_rfl) (by kernel_rfl) (by decide)) (run_part_row w (k := 192) (by kernel_rfl) (by kernel_rfl) (by decide))
    (run_equalIn_arr w Tryz.underlying101 (sS w) _ _ _ fun i hi => ⟨.agg (varr 6 (srcCell t i)), .agg (varr 6 (srcCell u i)), ?_, ?_, eq_src t u i w⟩) ?_
  · rw [run_part_row w (aS w) (sS w) (by omega)]
    rw [show (varr 6 fun j => cellR t (0 + (i * 6 + j))) = varr 6 (srcCell t i) from (varr_congr fun j _ => by rw [Nat.zero_add]).trans (cellR_row t hi)]
  · rw [run_part_row w (aS w) (sS w) (by omega)]
    rw [show (varr 6 fun j => cellR u (0 + (i * 6 + j))) = varr 6 (srcCell u i) from (varr_congr fun j _ => by rw [Nat.zero_add]).trans (cellR_row u hi)]
  refine run_fields_cons w (by decide) (run_part_row w (k := 2) (by kernel_rfl) (by kernel_rfl) (by decide)) (run_part_row w (k := 2) (by kernel_rfl) (by kernel_rfl) (by decide))
    (run_equalIn_arr w Tryz.underlying102 (s30 w) _ _ _ fun i hi => ⟨.int .u64 (t.floor i), .int .u64 (u.floor i), ?_, ?_, run_equalIn_int w 9997 _ .u64 .u64 _ _ Tryz.underlying26⟩) ?_
  · rw [Nat.mul_one, run_part_one w (a30 w) hi, cellR_floor t i]
  · rw [Nat.mul_one, run_part_one w (a30 w) hi, cellR_floor u i]
  exact run_fields_nil w _ _ _
/-- Equal here just where equal there. -/
theorem eq_both (t u : PS) : eqQ t u = eqR t u := by
  rw [Bool.eq_iff_iff]
  unfold eqQ eqR eqS
  simp only [Bool.and_true, Bool.and_eq_true, beq_iff_eq, List.all_eq_true, List.mem_range]
  constructor
  · rintro ⟨h1, h2, h3, h4, h5, h6⟩
    exact ⟨fun s hs => ⟨h4 s hs, bits32_inj h1 hs, bits32_inj h2 hs, bits32_inj h3 hs, fun c hc => bits32_inj (h5 c hc) hs⟩, h6⟩
  · rintro ⟨h, h6⟩
    exact ⟨bits32_congr fun s hs => (h s hs).2.1, bits32_congr fun s hs => (h s hs).2.2.1, bits32_congr fun s hs => (h s hs).2.2.2.1, fun s hs => (h s hs).1, fun c hc => bits32_congr fun s hs => (h s hs).2.2.2.2 c hc, h6⟩
/-- As the walk meets them. -/
theorem eql_prog (t u : PS) (w : World) : (binOp .eql 69 (.agg (varr 39 (cellQ t))) (.agg (varr 39 (cellQ u)))).run Tryz.prog w = .ok (.bool (eqQ t u)) w := by
  rw [run_eql_struct, eq_prog]; rfl
end Go.Proofs.YtbcnkhfpogglmaaGreatDoor.P5

namespace Go.Proofs.YtbcnkhfpogglmaaGreatDoor.U6
open Go.RowKit
set_option linter.unusedVariables false
set_option maxRecDepth 100000

/-- What the document's Same meets on its way: two strings of each, marks, registers. -/
structure Meets (w : World) (a b : Nat) (t u : US) (s1 s2 s3 s4 : ByteArray) (vi vo ui uo : Value) : Prop where
  e1 : ∀ n, (convert 40 9 vi).run Tryz.prog (w.drewN n) = .ok (.string s1) (w.drewN n)
  e2 : ∀ n, (convert 40 9 ui).run Tryz.prog (w.drewN n) = .ok (.string s2) (w.drewN n)
  e3 : ∀ n, (convert 40 9 vo).run Tryz.prog (w.drewN n) = .ok (.string s3) (w.drewN n)
  e4 : ∀ n, (convert 40 9 uo).run Tryz.prog (w.drewN n) = .ok (.string s4) (w.drewN n)
  a_lost : w.cell? ⟨a, 9, none⟩ = some (.bool t.lost)
  b_lost : w.cell? ⟨b, 9, none⟩ = some (.bool u.lost)
  a_sent : w.cell? ⟨a, 10, none⟩ = some (.bool t.sent)
  b_sent : w.cell? ⟨b, 10, none⟩ = some (.bool u.sent)
  a_ier : w.cell? ⟨a, 2, none⟩ = some (.int .u8 t.ier)
  b_ier : w.cell? ⟨b, 2, none⟩ = some (.int .u8 u.ier)
  a_fcr : w.cell? ⟨a, 3, none⟩ = some (.int .u8 t.fcr)
  b_fcr : w.cell? ⟨b, 3, none⟩ = some (.int .u8 u.fcr)
  a_lcr : w.cell? ⟨a, 4, none⟩ = some (.int .u8 t.lcr)
  b_lcr : w.cell? ⟨b, 4, none⟩ = some (.int .u8 u.lcr)
  a_mcr : w.cell? ⟨a, 5, none⟩ = some (.int .u8 t.mcr)
  b_mcr : w.cell? ⟨b, 5, none⟩ = some (.int .u8 u.mcr)
  a_scr : w.cell? ⟨a, 6, none⟩ = some (.int .u8 t.scr)
  b_scr : w.cell? ⟨b, 6, none⟩ = some (.int .u8 u.scr)
  a_dl : w.cell? ⟨a, 7, none⟩ = some (.int .u8 t.dl)
  b_dl : w.cell? ⟨b, 7, none⟩ = some (.int .u8 u.dl)
  a_dm : w.cell? ⟨a, 8, none⟩ = some (.int .u8 t.dm)
  b_dm : w.cell? ⟨b, 8, none⟩ = some (.int .u8 u.dm)
  a0 : w.cell? ⟨a, 0, none⟩ = some vi
  a1 : w.cell? ⟨a, 1, none⟩ = some vo
  b0 : w.cell? ⟨b, 0, none⟩ = some ui
  b1 : w.cell? ⟨b, 1, none⟩ = some uo
  c1 : (s1.toList == s2.toList) = decide (t.inn = u.inn)
  c2 : (s3.toList == s4.toList) = decide (t.out = u.out)
theorem meets {w : World} {a b : Nat} {Fa Fb : Nat → Prop} {t u : US} {vi vo ui uo : Value} (h : HR w a Fa t vi vo) (k : HR w b Fb u ui uo) : Meets w a b t u (strOfNums t.inn) (strOfNums u.inn) (strOfNums t.out) (strOfNums u.out) vi vo ui uo := by
  have h1 := h.ok.li
  have h2 := h.ok.lo
  have k1 := k.ok.li
  have k2 := k.ok.lo
  obtain ⟨x0, x1, x2, x3, x4, x5, x6, x7, x8, x9, x10⟩ := h.rcells
  obtain ⟨y0, y1, y2, y3, y4, y5, y6, y7, y8, y9, y10⟩ := k.rcells
  exact ⟨fun n => conv_row (h.below (belowD w n)).ri (by omega), fun n => conv_row (k.below (belowD w n)).ri (by omega), fun n => conv_row (h.below (belowD w n)).ro (by omega), fun n => conv_row (k.below (belowD w n)).ro (by omega),
    x9, y9, x10, y10, x2, y2, x3, y3, x4, y4, x5, y5, x6, y6, x7, y7, x8, y8, x0, x1, y0, y1, strEq h.ri.byt k.ri.byt, strEq h.ro.byt k.ro.byt⟩
theorem Meets.drewN {w : World} {a b : Nat} {t u : US} {s1 s2 s3 s4 : ByteArray} {vi vo ui uo : Value} (h : Meets w a b t u s1 s2 s3 s4 vi vo ui uo) (k : Nat) : Meets (w.drewN k) a b t u s1 s2 s3 s4 vi vo ui uo := by
  obtain ⟨e1, e2, e3, e4, x1, x2, x3, x4, x5, x6, x7, x8, x9, x10, x11, x12, x13, x14, x15, x16, x17, x18, a0, a1, b0, b1, c1, c2⟩ := h
  exact ⟨fun n => by rw [World.drewN_drewN]; exact e1 _, fun n => by rw [World.drewN_drewN]; exact e2 _, fun n => by rw [World.drewN_drewN]; exact e3 _, fun n => by rw [World.drewN_drewN]; exact e4 _, x1, x2, x3, x4, x5, x6, x7, x8, x9, x10, x11, x12, x13, x14, x15, x16, x17, x18, a0, a1, b0, b1, c1, c2⟩
set_option maxRecDepth 100000 in
set_option maxHeartbeats 4000000 in
theorem refSame_0 (w : World) (a b : Nat) (t u : US) (s1 s2 s3 s4 : ByteArray) (ai ao bi bo : Option Addr) (ni no mi mo ci co di do_ : Nat) (h : Meets w a b t u s1 s2 s3 s4 (.slice ai ni ci) (.slice ao no co) (.slice bi mi di) (.slice bo mo do_)) (q0 : (s1.toList == s2.toList) = false) :
    Calls Tryz.prog 67 #[.pointer (some ⟨a, 0, none⟩), .pointer (some ⟨b, 0, none⟩)] w (SaysB w false) := by
  obtain ⟨e1, e2, e3, e4, a_lost, b_lost, a_sent, b_sent, _, _, _, _, _, _, _, _, _, _, _, _, _, _, a0, a1, b0, b1, c1, c2⟩ := h
  clear c1 c2
  clear e3 e4
  go_enter Tryz.func67, Tryz.ntmps67
  go_wp2
  go_quiet (fail)
  go_wp2
  go_ret
  exact ⟨rfl, belowD w _⟩
set_option maxRecDepth 100000 in
set_option maxHeartbeats 4000000 in
theorem refSame_1 (w : World) (a b : Nat) (t u : US) (s1 s2 s3 s4 : ByteArray) (ai ao bi bo : Option Addr) (ni no mi mo ci co di do_ : Nat) (h : Meets w a b t u s1 s2 s3 s4 (.slice ai ni ci) (.slice ao no co) (.slice bi mi di) (.slice bo mo do_)) (q0 : (s1.toList == s2.toList) = true) (q1 : (s3.toList == s4.toList) = false) :
    Calls Tryz.prog 67 #[.pointer (some ⟨a, 0, none⟩), .pointer (some ⟨b, 0, none⟩)] w (SaysB w false) := by
  obtain ⟨e1, e2, e3, e4, a_lost, b_lost, a_sent, b_sent, _, _, _, _, _, _, _, _, _, _, _, _, _, _, a0, a1, b0, b1, c1, c2⟩ := h
  clear c1 c2
  go_enter Tryz.func67, Tryz.ntmps67
  go_wp2
  go_quiet (fail)
  go_wp2
  go_ret
  exact ⟨rfl, belowD w _⟩
set_option maxRecDepth 100000 in
set_option maxHeartbeats 4000000 in
theorem refSame_2 (w : World) (a b : Nat) (t u : US) (s1 s2 s3 s4 : ByteArray) (ai ao bi bo : Option Addr) (ni no mi mo ci co di do_ : Nat) (h : Meets w a b t u s1 s2 s3 s4 (.slice ai ni ci) (.slice ao no co) (.slice bi mi di) (.slice bo mo do_)) (q0 : (s1.toList == s2.toList) = true) (q1 : (s3.toList == s4.toList) = true) (q2 : (t.lost == u.lost) = false) :
    Calls Tryz.prog 67 #[.pointer (some ⟨a, 0, none⟩), .pointer (some ⟨b, 0, none⟩)] w (SaysB w false) := by
  obtain ⟨e1, e2, e3, e4, a_lost, b_lost, a_sent, b_sent, _, _, _, _, _, _, _, _, _, _, _, _, _, _, a0, a1, b0, b1, c1, c2⟩ := h
  clear c1 c2
  go_enter Tryz.func67, Tryz.ntmps67
  go_wp2
  go_quiet (fail)
  go_wp2
  go_ret
  exact ⟨rfl, belowD w _⟩
set_option maxRecDepth 100000 in
set_option maxHeartbeats 4000000 in
theorem refSame_3 (w : World) (a b : Nat) (t u : US) (s1 s2 s3 s4 : ByteArray) (ai ao bi bo : Option Addr) (ni no mi mo ci co di do_ : Nat) (h : Meets w a b t u s1 s2 s3 s4 (.slice ai ni ci) (.slice ao no co) (.slice bi mi di) (.slice bo mo do_)) (q0 : (s1.toList == s2.toList) = true) (q1 : (s3.toList == s4.toList) = true) (q2 : (t.lost == u.lost) = true) (q3 : (t.sent == u.sent) = false) :
    Calls Tryz.prog 67 #[.pointer (some ⟨a, 0, none⟩), .pointer (some ⟨b, 0, none⟩)] w (SaysB w false) := by
  obtain ⟨e1, e2, e3, e4, a_lost, b_lost, a_sent, b_sent, _, _, _, _, _, _, _, _, _, _, _, _, _, _, a0, a1, b0, b1, c1, c2⟩ := h
  clear c1 c2
  go_enter Tryz.func67, Tryz.ntmps67
  go_wp2
  go_quiet (fail)
  go_wp2
  go_ret
  exact ⟨rfl, belowD w _⟩
theorem regs_ways (t u : US) : ((t.ier == u.ier) = false) ∨ ((t.ier == u.ier) = true ∧ (t.fcr == u.fcr) = false) ∨ ((t.ier == u.ier) = true ∧ (t.fcr == u.fcr) = true ∧ (t.lcr == u.lcr) = false) ∨ ((t.ier == u.ier) = true ∧ (t.fcr == u.fcr) = true ∧ (t.lcr == u.lcr) = true ∧ (t.mcr == u.mcr) = false) ∨ ((t.ier == u.ier) = true ∧ (t.fcr == u.fcr) = true ∧ (t.lcr == u.lcr) = true ∧ (t.mcr == u.mcr) = true ∧ (t.scr == u.scr) = false) ∨ ((t.ier == u.ier) = true ∧ (t.fcr == u.fcr) = true ∧ (t.lcr == u.lcr) = true ∧ (t.mcr == u.mcr) = true ∧ (t.scr == u.scr) = true ∧ (t.dl == u.dl) = false) ∨ ((t.ier == u.ier) = true ∧ (t.fcr == u.fcr) = true ∧ (t.lcr == u.lcr) = true ∧ (t.mcr == u.mcr) = true ∧ (t.scr == u.scr) = true ∧ (t.dl == u.dl) = true ∧ (t.dm == u.dm) = false) ∨ ((t.ier == u.ier) = true ∧ (t.fcr == u.fcr) = true ∧ (t.lcr == u.lcr) = true ∧ (t.mcr == u.mcr) = true ∧ (t.scr == u.scr) = true ∧ (t.dl == u.dl) = true ∧ (t.dm == u.dm) = true) := by
  cases (t.ier == u.ier)
  · exact .inl rfl
  cases (t.fcr == u.fcr)
  · exact .inr (.inl ⟨rfl, rfl⟩)
  cases (t.lcr == u.lcr)
  · exact .inr (.inr (.inl ⟨rfl, rfl, rfl⟩))
  cases (t.mcr == u.mcr)
  · exact .inr (.inr (.inr (.inl ⟨rfl, rfl, rfl, rfl⟩)))
  cases (t.scr == u.scr)
  · exact .inr (.inr (.inr (.inr (.inl ⟨rfl, rfl, rfl, rfl, rfl⟩))))
  cases (t.dl == u.dl)
  · exact .inr (.inr (.inr (.inr (.inr (.inl ⟨rfl, rfl, rfl, rfl, rfl, rfl⟩)))))
  cases (t.dm == u.dm)
  · exact .inr (.inr (.inr (.inr (.inr (.inr (.inl ⟨rfl, rfl, rfl, rfl, rfl, rfl, rfl⟩))))))
  · exact .inr (.inr (.inr (.inr (.inr (.inr (.inr ⟨rfl, rfl, rfl, rfl, rfl, rfl, rfl⟩))))))
set_option maxRecDepth 100000 in
set_option maxHeartbeats 16000000 in
theorem refSame_regs (w : World) (a b : Nat) (t u : US) (s1 s2 s3 s4 : ByteArray) (ai ao bi bo : Option Addr) (ni no mi mo ci co di do_ : Nat) (h : Meets w a b t u s1 s2 s3 s4 (.slice ai ni ci) (.slice ao no co) (.slice bi mi di) (.slice bo mo do_)) (q0 : (s1.toList == s2.toList) = true) (q1 : (s3.toList == s4.toList) = true) (q2 : (t.lost == u.lost) = true) (q3 : (t.sent == u.sent) = true) :
    Calls Tryz.prog 67 #[.pointer (some ⟨a, 0, none⟩), .pointer (some ⟨b, 0, none⟩)] w (SaysB w (regEq t u)) := by
  have H := Lib.hid h
  obtain ⟨e1, e2, e3, e4, a_lost, b_lost, a_sent, b_sent, _, _, _, _, _, _, _, _, _, _, _, _, _, _, a0, a1, b0, b1, c1, c2⟩ := h
  clear c1 c2
  have HD := Lib.hid (regs_ways t u)
  go_enter Tryz.func67, Tryz.ntmps67
  go_wp2
  go_quiet (fail)
  go_wp2
  have H2 := Lib.hid (H.out.drewN nq)
  have HB := Lib.hid (belowD w nq)
  clear e1 e2 e3 e4 a_lost b_lost a_sent b_sent a0 a1 b0 b1 H q0 q1 q2 q3
  generalize w.drewN nq = w2 at *
  simp only [List.append]
  refine wp_region_quiet_lit (by kernel_rfl) (by kernel_rfl) ?_
  rcases HD.out with p0 | ⟨p0, p1⟩ | ⟨p0, p1, p2⟩ | ⟨p0, p1, p2, p3⟩ | ⟨p0, p1, p2, p3, p4⟩ | ⟨p0, p1, p2, p3, p4, p5⟩ | ⟨p0, p1, p2, p3, p4, p5, p6⟩ | ⟨p0, p1, p2, p3, p4, p5, p6⟩
  · have hR : regEq t u = false := by unfold regEq; simp only [p0, Bool.true_and, Bool.false_and, Bool.and_true]
    have HRR := Lib.hid hR
    clear hR HD
    obtain ⟨_, _, _, _, _, _, _, _, a_ier, b_ier, _, _, _, _, _, _, _, _, _, _, _, _, _, _, _, _, _, _⟩ := H2.out
    clear H2
    repeat go_big_quiet_step (fail)
    refine wpQuiet_nil ?_
    intro _ hw2
    obtain ⟨nq2, hw3⟩ := hw2
    subst hw3
    go_wp2
    go_ret
    exact ⟨by rw [HRR.out]; rfl, HB.out.trans ((belowD w2 _).mono HB.out.size)⟩
  · have hR : regEq t u = false := by unfold regEq; simp only [p0, p1, Bool.true_and, Bool.false_and, Bool.and_true]
    have HRR := Lib.hid hR
    clear hR HD
    obtain ⟨_, _, _, _, _, _, _, _, a_ier, b_ier, a_fcr, b_fcr, _, _, _, _, _, _, _, _, _, _, _, _, _, _, _, _⟩ := H2.out
    clear H2
    repeat go_big_quiet_step (fail)
    refine wpQuiet_nil ?_
    intro _ hw2
    obtain ⟨nq2, hw3⟩ := hw2
    subst hw3
    go_wp2
    go_ret
    exact ⟨by rw [HRR.out]; rfl, HB.out.trans ((belowD w2 _).mono HB.out.size)⟩
  · have hR : regEq t u = false := by unfold regEq; simp only [p0, p1, p2, Bool.true_and, Bool.false_and, Bool.and_true]
    have HRR := Lib.hid hR
    clear hR HD
    obtain ⟨_, _, _, _, _, _, _, _, a_ier, b_ier, a_fcr, b_fcr, a_lcr, b_lcr, _, _, _, _, _, _, _, _, _, _, _, _, _, _⟩ := H2.out
    clear H2
    repeat go_big_quiet_step (fail)
    refine wpQuiet_nil ?_
    intro _ hw2
    obtain ⟨nq2, hw3⟩ := hw2
    subst hw3
    go_wp2
    go_ret
    exact ⟨by rw [HRR.out]; rfl, HB.out.trans ((belowD w2 _).mono HB.out.size)⟩
  · have hR : regEq t u = false := by unfold regEq; simp only [p0, p1, p2, p3, Bool.true_and, Bool.false_and, Bool.and_true]
    have HRR := Lib.hid hR
    clear hR HD
    obtain ⟨_, _, _, _, _, _, _, _, a_ier, b_ier, a_fcr, b_fcr, a_lcr, b_lcr, a_mcr, b_mcr, _, _, _, _, _, _, _, _, _, _, _, _⟩ := H2.out
    clear H2
    repeat go_big_quiet_step (fail)
    refine wpQuiet_nil ?_
    intro _ hw2
    obtain ⟨nq2, hw3⟩ := hw2
    subst hw3
    go_wp2
    go_ret
    exact ⟨by rw [HRR.out]; rfl, HB.out.trans ((belowD w2 _).mono HB.out.size)⟩
  · have hR : regEq t u = false := by unfold regEq; simp only [p0, p1, p2, p3, p4, Bool.true_and, Bool.false_and, Bool.and_true]
    have HRR := Lib.hid hR
    clear hR HD
    obtain ⟨_, _, _, _, _, _, _, _, a_ier, b_ier, a_fcr, b_fcr, a_lcr, b_lcr, a_mcr, b_mcr, a_scr, b_scr, _, _, _, _, _, _, _, _, _, _⟩ := H2.out
    clear H2
    repeat go_big_quiet_step (fail)
    refine wpQuiet_nil ?_
    intro _ hw2
    obtain ⟨nq2, hw3⟩ := hw2
    subst hw3
    go_wp2
    go_ret
    exact ⟨by rw [HRR.out]; rfl, HB.out.trans ((belowD w2 _).mono HB.out.size)⟩
  · have hR : regEq t u = false := by unfold regEq; simp only [p0, p1, p2, p3, p4, p5, Bool.true_and, Bool.false_and, Bool.and_true]
    have HRR := Lib.hid hR
    clear hR HD
    obtain ⟨_, _, _, _, _, _, _, _, a_ier, b_ier, a_fcr, b_fcr, a_lcr, b_lcr, a_mcr, b_mcr, a_scr, b_scr, a_dl, b_dl, _, _, _, _, _, _, _, _⟩ := H2.out
    clear H2
    repeat go_big_quiet_step (fail)
    refine wpQuiet_nil ?_
    intro _ hw2
    obtain ⟨nq2, hw3⟩ := hw2
    subst hw3
    go_wp2
    go_ret
    exact ⟨by rw [HRR.out]; rfl, HB.out.trans ((belowD w2 _).mono HB.out.size)⟩
  · have hR : regEq t u = false := by unfold regEq; simp only [p0, p1, p2, p3, p4, p5, p6, Bool.true_and, Bool.false_and, Bool.and_true]
    have HRR := Lib.hid hR
    clear hR HD
    obtain ⟨_, _, _, _, _, _, _, _, a_ier, b_ier, a_fcr, b_fcr, a_lcr, b_lcr, a_mcr, b_mcr, a_scr, b_scr, a_dl, b_dl, a_dm, b_dm, _, _, _, _, _, _⟩ := H2.out
    clear H2
    repeat go_big_quiet_step (fail)
    refine wpQuiet_nil ?_
    intro _ hw2
    obtain ⟨nq2, hw3⟩ := hw2
    subst hw3
    go_wp2
    go_ret
    exact ⟨by rw [HRR.out]; rfl, HB.out.trans ((belowD w2 _).mono HB.out.size)⟩
  · have hR : regEq t u = true := by unfold regEq; simp only [p0, p1, p2, p3, p4, p5, p6, Bool.true_and, Bool.false_and, Bool.and_true]
    have HRR := Lib.hid hR
    clear hR HD
    obtain ⟨_, _, _, _, _, _, _, _, a_ier, b_ier, a_fcr, b_fcr, a_lcr, b_lcr, a_mcr, b_mcr, a_scr, b_scr, a_dl, b_dl, a_dm, b_dm, _, _, _, _, _, _⟩ := H2.out
    clear H2
    repeat go_big_quiet_step (fail)
    refine wpQuiet_nil ?_
    intro _ hw2
    obtain ⟨nq2, hw3⟩ := hw2
    subst hw3
    go_wp2
    go_ret
    exact ⟨by rw [HRR.out]; rfl, HB.out.trans ((belowD w2 _).mono HB.out.size)⟩

theorem sameU_eq (t u : US) : sameU t u = (decide (t.inn = u.inn) && (decide (t.out = u.out) && (((t.lost == u.lost) && (t.sent == u.sent)) && ((t.ier == u.ier) && ((t.fcr == u.fcr) && ((t.lcr == u.lcr) && ((t.mcr == u.mcr) && ((t.scr == u.scr) && ((t.dl == u.dl) && (t.dm == u.dm)))))))))) := rfl
theorem refSame_any (w : World) (a b : Nat) (Fa Fb : Nat → Prop) (t u : US) (h : UR w a Fa t) (k : UR w b Fb u) :
    Calls Tryz.prog 67 #[.pointer (some ⟨a, 0, none⟩), .pointer (some ⟨b, 0, none⟩)] w (SaysB w (sameU t u)) := by
  obtain ⟨vi, vo, h⟩ := h
  obtain ⟨ui, uo, k⟩ := k
  have h1 := h.ok.li
  have h2 := h.ok.lo
  have k1 := k.ok.li
  have k2 := k.ok.lo
  have M := meets h k
  obtain ⟨ai, ci, rfl, _⟩ := h.ri.reads (by omega)
  obtain ⟨ao, co, rfl, _⟩ := h.ro.reads (by omega)
  obtain ⟨bi, di, rfl, _⟩ := k.ri.reads (by omega)
  obtain ⟨bo, do_, rfl, _⟩ := k.ro.reads (by omega)
  have ER := sameU_eq t u
  have m1 := M.c1
  have m2 := M.c2
  have m3 : (t.lost == u.lost) = (t.lost == u.lost) := rfl
  have m4 : (t.sent == u.sent) = (t.sent == u.sent) := rfl
  cases r0 : decide (t.inn = u.inn)
  case false => rw [r0] at ER m1; rw [ER]; exact refSame_0 w a b t u _ _ _ _ _ _ _ _ _ _ _ _ _ _ _ _ M  m1
  case true =>
    rw [r0] at ER m1
    cases r1 : decide (t.out = u.out)
    case false => rw [r1] at ER m2; rw [ER]; exact refSame_1 w a b t u _ _ _ _ _ _ _ _ _ _ _ _ _ _ _ _ M m1 m2
    case true =>
      rw [r1] at ER m2
      cases r2 : (t.lost == u.lost)
      case false => rw [r2] at ER; rw [show sameU t u = false by rw [ER]; simp]; exact refSame_2 w a b t u _ _ _ _ _ _ _ _ _ _ _ _ _ _ _ _ M m1 m2 r2
      case true =>
        rw [r2] at ER
        cases r3 : (t.sent == u.sent)
        case false => rw [r3] at ER; rw [show sameU t u = false by rw [ER]; simp]; exact refSame_3 w a b t u _ _ _ _ _ _ _ _ _ _ _ _ _ _ _ _ M m1 m2 r2 r3
        case true =>
          rw [r3] at ER
          rw [show sameU t u = regEq t u by rw [ER]; simp [regEq]]
          exact refSame_regs w a b t u _ _ _ _ _ _ _ _ _ _ _ _ _ _ _ _ M m1 m2 r2 r3

end Go.Proofs.YtbcnkhfpogglmaaGreatDoor.U6

namespace Go.Proofs.YtbcnkhfpogglmaaGreatDoor
open Go.RowKit
set_option linter.unusedVariables false
set_option maxRecDepth 100000

theorem refSame7_nil (w : World) : Calls Tryz.prog 24 #[.pointer none, .pointer none] w fun e w' => e = .returned (.bool true) ∧ w = w' := by
  go_enter Tryz.func24, Tryz.ntmps24
  go_wp2
  go_ret
  exact ⟨rfl, rfl⟩
theorem refSame7_left (w : World) (a : Addr) : Calls Tryz.prog 24 #[.pointer none, .pointer (some a)] w fun e w' => e = .returned (.bool false) ∧ w = w' := by
  go_enter Tryz.func24, Tryz.ntmps24
  go_wp2
  go_ret
  exact ⟨rfl, rfl⟩
theorem refSame7_right (w : World) (a : Addr) : Calls Tryz.prog 24 #[.pointer (some a), .pointer none] w fun e w' => e = .returned (.bool false) ∧ w = w' := by
  go_enter Tryz.func24, Tryz.ntmps24
  go_wp2
  go_ret
  exact ⟨rfl, rfl⟩

end Go.Proofs.YtbcnkhfpogglmaaGreatDoor

namespace Go.Proofs.YtbcnkhfpogglmaaGreatDoor
open Go.RowKit
set_option linter.unusedVariables false
set_option maxRecDepth 100000

section
variable {w : World} {a b g h : Nat} {K L : Nat → Nat} {vp vq : Value} {ul um : List Nat} {N M : Nat} {st su : BS}
theorem refSame7_len (H : BusR w a K g vp ul N st) (I : BusR w b L h vq um M su) (hne : ¬ ul.length = um.length) : Calls Tryz.prog 24 #[.pointer (some ⟨a, 0, none⟩), .pointer (some ⟨b, 0, none⟩)] w fun e w' => e = .returned (.bool false) ∧ Below w.heap.size w w' := by
  obtain ⟨av, cv, rfl, hcap⟩ := H.uarts.len
  obtain ⟨aw, cw, rfl, hcaw⟩ := I.uarts.len
  have HUA : Hid (∀ wx, Below w.heap.size w wx → wx.cell? ⟨a, 198, none⟩ = some (.slice av ul.length cv)) := Lib.hid fun wx o => (H.below o).obj.uarts_
  have HUB : Hid (∀ wx, Below w.heap.size w wx → wx.cell? ⟨b, 198, none⟩ = some (.slice aw um.length cw)) := Lib.hid fun wx o => (I.below o).obj.uarts_
  clear H I
  generalize ul.length = n at *
  generalize um.length = m at *
  have q : ((n : Int) != (m : Int)) = true := by simp; omega
  clear hne
  go_enter Tryz.func24, Tryz.ntmps24
  go_wp2
  refine wp_region_held_drew (S := fun wx => Below w.heap.size w wx) (by kernel_rfl) ((Below.refl _ _).drew) (fun hHeld0 => ?_)
  have HS := Lib.hid hHeld0
  clear hHeld0
  refine takeD (i := 0) (some 18) (v := ?_) rfl rfl (by kernel_rfl) (by kernel_rfl) (by kernel_rfl) (fun _ _ _ h => h) (by rfl) HS.out ?_ ?_
  rotate_left
  · intro wx hSx
    clear hSx
    go_simp
    try (with_reducible rfl)
  simp only [Act.put, List.setIfInBounds_toArray, List.set_cons_zero, List.set_cons_succ]
  refine takeD (i := 1) (some 19) (v := ?_) rfl rfl (by kernel_rfl) (by kernel_rfl) (by kernel_rfl) (fun _ _ _ h => h) (by rfl) HS.out ?_ ?_
  rotate_left
  · intro wx hSx
    clear hSx
    go_simp
    try (with_reducible rfl)
  simp only [Act.put, List.setIfInBounds_toArray, List.set_cons_zero, List.set_cons_succ]
  refine takeD (i := 2) (some 20) (v := ?_) rfl rfl (by kernel_rfl) (by kernel_rfl) (by kernel_rfl) (fun _ _ _ h => h) (by rfl) HS.out ?_ ?_
  rotate_left
  · intro wx hSx
    clear hSx
    go_simp
    try (with_reducible rfl)
  simp only [Act.put, List.setIfInBounds_toArray, List.set_cons_zero, List.set_cons_succ]
  refine takeD (i := 3) (some 21) (v := ?_) rfl rfl (by kernel_rfl) (by kernel_rfl) (by kernel_rfl) (fun _ _ _ h => h) (by rfl) HS.out ?_ ?_
  rotate_left
  · intro wx hSx
    have ka := HUA.out wx hSx
    clear hSx
    go_simp
    try (with_reducible rfl)
  simp only [Act.put, List.setIfInBounds_toArray, List.set_cons_zero, List.set_cons_succ]
  refine takeD (i := 4) (some 22) (v := ?_) rfl rfl (by kernel_rfl) (by kernel_rfl) (by kernel_rfl) (fun _ _ _ h => h) (by rfl) HS.out ?_ ?_
  rotate_left
  · intro wx hSx
    clear hSx
    go_simp
    try (with_reducible rfl)
  simp only [Act.put, List.setIfInBounds_toArray, List.set_cons_zero, List.set_cons_succ]
  refine takeD (i := 5) (some 23) (v := ?_) rfl rfl (by kernel_rfl) (by kernel_rfl) (by kernel_rfl) (fun _ _ _ h => h) (by rfl) HS.out ?_ ?_
  rotate_left
  · intro wx hSx
    clear hSx
    go_simp
    try (with_reducible rfl)
  simp only [Act.put, List.setIfInBounds_toArray, List.set_cons_zero, List.set_cons_succ]
  refine takeD (i := 6) (some 24) (v := ?_) rfl rfl (by kernel_rfl) (by kernel_rfl) (by kernel_rfl) (fun _ _ _ h => h) (by rfl) HS.out ?_ ?_
  rotate_left
  · intro wx hSx
    clear hSx
    go_simp
    try (with_reducible rfl)
  simp only [Act.put, List.setIfInBounds_toArray, List.set_cons_zero, List.set_cons_succ]
  refine takeD (i := 7) (some 25) (v := ?_) rfl rfl (by kernel_rfl) (by kernel_rfl) (by kernel_rfl) (fun _ _ _ h => h) (by rfl) HS.out ?_ ?_
  rotate_left
  · intro wx hSx
    clear hSx
    go_simp
    try (with_reducible rfl)
  simp only [Act.put, List.setIfInBounds_toArray, List.set_cons_zero, List.set_cons_succ]
  refine takeD (i := 8) (some 26) (v := ?_) rfl rfl (by kernel_rfl) (by kernel_rfl) (by kernel_rfl) (fun _ _ _ h => h) (by rfl) HS.out ?_ ?_
  rotate_left
  · intro wx hSx
    have kb := HUB.out wx hSx
    clear hSx
    go_simp
    try (with_reducible rfl)
  simp only [Act.put, List.setIfInBounds_toArray, List.set_cons_zero, List.set_cons_succ]
  refine takeD (i := 9) (some 27) (v := ?_) rfl rfl (by kernel_rfl) (by kernel_rfl) (by kernel_rfl) (fun _ _ _ h => h) (by rfl) HS.out ?_ ?_
  rotate_left
  · intro wx hSx
    clear hSx
    go_simp
    try (with_reducible rfl)
  simp only [Act.put, List.setIfInBounds_toArray, List.set_cons_zero, List.set_cons_succ]
  refine takeD (i := 10) (some 28) (v := ?_) rfl rfl (by kernel_rfl) (by kernel_rfl) (by kernel_rfl) (fun _ _ _ h => h) (by rfl) HS.out ?_ ?_
  rotate_left
  · intro wx hSx
    clear hSx
    go_simp
    try (with_reducible rfl)
  simp only [Act.put, List.setIfInBounds_toArray, List.set_cons_zero, List.set_cons_succ]
  refine takeD (i := 11) (some 29) (v := ?_) rfl rfl (by kernel_rfl) (by kernel_rfl) (by kernel_rfl) (fun _ _ _ h => h) (by rfl) HS.out ?_ ?_
  rotate_left
  · intro wx hSx
    clear hSx
    go_simp
    try (with_reducible rfl)
  simp only [Act.put, List.setIfInBounds_toArray, List.set_cons_zero, List.set_cons_succ]
  refine skipD (i := 12) (some 30) rfl rfl (by kernel_rfl) (by kernel_rfl) (by kernel_rfl) (fun _ _ _ h => h) (by rfl) HS.out ?_
  simp only [Act.put, List.setIfInBounds_toArray, List.set_cons_zero, List.set_cons_succ]
  refine skipD (i := 13) (some 31) rfl rfl (by kernel_rfl) (by kernel_rfl) (by kernel_rfl) (fun _ _ _ h => h) (by rfl) HS.out ?_
  simp only [Act.put, List.setIfInBounds_toArray, List.set_cons_zero, List.set_cons_succ]
  refine skipD (i := 14) (some 32) rfl rfl (by kernel_rfl) (by kernel_rfl) (by kernel_rfl) (fun _ _ _ h => h) (by rfl) HS.out ?_
  simp only [Act.put, List.setIfInBounds_toArray, List.set_cons_zero, List.set_cons_succ]
  refine skipD (i := 15) (some 33) rfl rfl (by kernel_rfl) (by kernel_rfl) (by kernel_rfl) (fun _ _ _ h => h) (by rfl) HS.out ?_
  simp only [Act.put, List.setIfInBounds_toArray, List.set_cons_zero, List.set_cons_succ]
  refine skipD (i := 16) (some 34) rfl rfl (by kernel_rfl) (by kernel_rfl) (by kernel_rfl) (fun _ _ _ h => h) (by rfl) HS.out ?_
  simp only [Act.put, List.setIfInBounds_toArray, List.set_cons_zero, List.set_cons_succ]
  refine skipD (i := 17) (some 35) rfl rfl (by kernel_rfl) (by kernel_rfl) (by kernel_rfl) (fun _ _ _ h => h) (by rfl) HS.out ?_
  simp only [Act.put, List.setIfInBounds_toArray, List.set_cons_zero, List.set_cons_succ]
  refine skipD (i := 18) (some 36) rfl rfl (by kernel_rfl) (by kernel_rfl) (by kernel_rfl) (fun _ _ _ h => h) (by rfl) HS.out ?_
  simp only [Act.put, List.setIfInBounds_toArray, List.set_cons_zero, List.set_cons_succ]
  refine skipD (i := 19) (some 37) rfl rfl (by kernel_rfl) (by kernel_rfl) (by kernel_rfl) (fun _ _ _ h => h) (by rfl) HS.out ?_
  simp only [Act.put, List.setIfInBounds_toArray, List.set_cons_zero, List.set_cons_succ]
  refine skipD (i := 20) (some 38) rfl rfl (by kernel_rfl) (by kernel_rfl) (by kernel_rfl) (fun _ _ _ h => h) (by rfl) HS.out ?_
  simp only [Act.put, List.setIfInBounds_toArray, List.set_cons_zero, List.set_cons_succ]
  refine takeD (i := 21) (some 39) (v := ?_) rfl rfl (by kernel_rfl) (by kernel_rfl) (by kernel_rfl) (fun _ _ _ h => h) (by rfl) HS.out ?_ ?_
  rotate_left
  · intro wx hSx
    clear hSx
    go_simp
    try (with_reducible rfl)
  simp only [Act.put, List.setIfInBounds_toArray, List.set_cons_zero, List.set_cons_succ]
  refine takeD (i := 22) (some 40) (v := ?_) rfl rfl (by kernel_rfl) (by kernel_rfl) (by kernel_rfl) (fun _ _ _ h => h) (by rfl) HS.out ?_ ?_
  rotate_left
  · intro wx hSx
    clear hSx
    go_simp
    try (with_reducible rfl)
  simp only [Act.put, List.setIfInBounds_toArray, List.set_cons_zero, List.set_cons_succ]
  refine skipD (i := 23) (some 41) rfl rfl (by kernel_rfl) (by kernel_rfl) (by kernel_rfl) (fun _ _ _ h => h) (by rfl) HS.out ?_
  simp only [Act.put, List.setIfInBounds_toArray, List.set_cons_zero, List.set_cons_succ]
  refine skipD (i := 24) (some 42) rfl rfl (by kernel_rfl) (by kernel_rfl) (by kernel_rfl) (fun _ _ _ h => h) (by rfl) HS.out ?_
  simp only [Act.put, List.setIfInBounds_toArray, List.set_cons_zero, List.set_cons_succ]
  refine skipD (i := 25) (some 43) rfl rfl (by kernel_rfl) (by kernel_rfl) (by kernel_rfl) (fun _ _ _ h => h) (by rfl) HS.out ?_
  simp only [Act.put, List.setIfInBounds_toArray, List.set_cons_zero, List.set_cons_succ]
  refine skipD (i := 26) (some 44) rfl rfl (by kernel_rfl) (by kernel_rfl) (by kernel_rfl) (fun _ _ _ h => h) (by rfl) HS.out ?_
  simp only [Act.put, List.setIfInBounds_toArray, List.set_cons_zero, List.set_cons_succ]
  refine skipD (i := 27) (some 45) rfl rfl (by kernel_rfl) (by kernel_rfl) (by kernel_rfl) (fun _ _ _ h => h) (by rfl) HS.out ?_
  simp only [Act.put, List.setIfInBounds_toArray, List.set_cons_zero, List.set_cons_succ]
  refine skipD (i := 28) (some 46) rfl rfl (by kernel_rfl) (by kernel_rfl) (by kernel_rfl) (fun _ _ _ h => h) (by rfl) HS.out ?_
  simp only [Act.put, List.setIfInBounds_toArray, List.set_cons_zero, List.set_cons_succ]
  refine skipD (i := 29) (some 47) rfl rfl (by kernel_rfl) (by kernel_rfl) (by kernel_rfl) (fun _ _ _ h => h) (by rfl) HS.out ?_
  simp only [Act.put, List.setIfInBounds_toArray, List.set_cons_zero, List.set_cons_succ]
  refine skipD (i := 30) (some 48) rfl rfl (by kernel_rfl) (by kernel_rfl) (by kernel_rfl) (fun _ _ _ h => h) (by rfl) HS.out ?_
  simp only [Act.put, List.setIfInBounds_toArray, List.set_cons_zero, List.set_cons_succ]
  refine skipD (i := 31) (some 49) rfl rfl (by kernel_rfl) (by kernel_rfl) (by kernel_rfl) (fun _ _ _ h => h) (by rfl) HS.out ?_
  simp only [Act.put, List.setIfInBounds_toArray, List.set_cons_zero, List.set_cons_succ]
  refine takeD (i := 32) (some 50) (v := ?_) rfl rfl (by kernel_rfl) (by kernel_rfl) (by kernel_rfl) (fun _ _ _ h => h) (by rfl) HS.out ?_ ?_
  rotate_left
  · intro wx hSx
    clear hSx
    go_simp
    try (with_reducible rfl)
  simp only [Act.put, List.setIfInBounds_toArray, List.set_cons_zero, List.set_cons_succ]
  refine takeD (i := 33) (some 51) (v := ?_) rfl rfl (by kernel_rfl) (by kernel_rfl) (by kernel_rfl) (fun _ _ _ h => h) (by rfl) HS.out ?_ ?_
  rotate_left
  · intro wx hSx
    clear hSx
    go_simp
    try (with_reducible rfl)
  simp only [Act.put, List.setIfInBounds_toArray, List.set_cons_zero, List.set_cons_succ]
  refine skipD (i := 34) (some 52) rfl rfl (by kernel_rfl) (by kernel_rfl) (by kernel_rfl) (fun _ _ _ h => h) (by rfl) HS.out ?_
  simp only [Act.put, List.setIfInBounds_toArray, List.set_cons_zero, List.set_cons_succ]
  refine skipD (i := 35) (some 53) rfl rfl (by kernel_rfl) (by kernel_rfl) (by kernel_rfl) (fun _ _ _ h => h) (by rfl) HS.out ?_
  simp only [Act.put, List.setIfInBounds_toArray, List.set_cons_zero, List.set_cons_succ]
  refine skipD (i := 36) (some 54) rfl rfl (by kernel_rfl) (by kernel_rfl) (by kernel_rfl) (fun _ _ _ h => h) (by rfl) HS.out ?_
  simp only [Act.put, List.setIfInBounds_toArray, List.set_cons_zero, List.set_cons_succ]
  refine skipD (i := 37) (some 55) rfl rfl (by kernel_rfl) (by kernel_rfl) (by kernel_rfl) (fun _ _ _ h => h) (by rfl) HS.out ?_
  simp only [Act.put, List.setIfInBounds_toArray, List.set_cons_zero, List.set_cons_succ]
  refine skipD (i := 38) (some 56) rfl rfl (by kernel_rfl) (by kernel_rfl) (by kernel_rfl) (fun _ _ _ h => h) (by rfl) HS.out ?_
  simp only [Act.put, List.setIfInBounds_toArray, List.set_cons_zero, List.set_cons_succ]
  refine skipD (i := 39) (some 57) rfl rfl (by kernel_rfl) (by kernel_rfl) (by kernel_rfl) (fun _ _ _ h => h) (by rfl) HS.out ?_
  simp only [Act.put, List.setIfInBounds_toArray, List.set_cons_zero, List.set_cons_succ]
  refine skipD (i := 40) (some 58) rfl rfl (by kernel_rfl) (by kernel_rfl) (by kernel_rfl) (fun _ _ _ h => h) (by rfl) HS.out ?_
  simp only [Act.put, List.setIfInBounds_toArray, List.set_cons_zero, List.set_cons_succ]
  refine skipD (i := 41) (some 59) rfl rfl (by kernel_rfl) (by kernel_rfl) (by kernel_rfl) (fun _ _ _ h => h) (by rfl) HS.out ?_
  simp only [Act.put, List.setIfInBounds_toArray, List.set_cons_zero, List.set_cons_succ]
  refine skipD (i := 42) (some 60) rfl rfl (by kernel_rfl) (by kernel_rfl) (by kernel_rfl) (fun _ _ _ h => h) (by rfl) HS.out ?_
  simp only [Act.put, List.setIfInBounds_toArray, List.set_cons_zero, List.set_cons_succ]
  refine skipD (i := 43) (some 61) rfl rfl (by kernel_rfl) (by kernel_rfl) (by kernel_rfl) (fun _ _ _ h => h) (by rfl) HS.out ?_
  simp only [Act.put, List.setIfInBounds_toArray, List.set_cons_zero, List.set_cons_succ]
  refine takeD (i := 44) (some 62) (v := ?_) rfl rfl (by kernel_rfl) (by kernel_rfl) (by kernel_rfl) (fun _ _ _ h => h) (by rfl) HS.out ?_ ?_
  rotate_left
  · intro wx hSx
    clear hSx
    go_simp
    try (with_reducible rfl)
  simp only [Act.put, List.setIfInBounds_toArray, List.set_cons_zero, List.set_cons_succ]
  refine wpAnyH_done (by kernel_rfl) ?_ _
  go_wp2
  go_ret
  exact ⟨rfl, HS.out⟩
end

end Go.Proofs.YtbcnkhfpogglmaaGreatDoor

namespace Go.Proofs.YtbcnkhfpogglmaaGreatDoor
open Go.RowKit
set_option linter.unusedVariables false
set_option maxRecDepth 100000

section
variable {P : Program}
theorem yield_neq {op : Oper} {a : Act} {w : World} (t ty : TypeId) (x y : Operand) (ho : op.op = .binOp .neq t x y ty) (xs ys : Array Value) (hx : a.eval x = .agg xs) (hy : a.eval y = .agg ys) (hm : P.eqGuardType P.depth t = false) (r : Bool)
    (hr : (binOp .neq t (.agg xs) (.agg ys)).run P w = .ok (.bool r) w) : (execOp a.eval op).run P w = .ok (.value (.bool r)) w := by
  unfold execOp
  simp only [ho, hx, hy, Sem.run_bind, run_eqGuard_agg w .neq t x y _ _ hm, hr, Result.andThen_ok, Sem.run_pure]
end
def rowC (c : C4.Cl) : Array Value := #[.int .u64 (C4.sI c.s), .int .u64 c.c, .int .u64 c.n]
def eqC (c d : C4.Cl) : Bool := (C4.sI c.s == C4.sI d.s) && ((c.c == d.c) && ((c.n == d.n) && true))
theorem eq_refc (c d : C4.Cl) (w : World) : (Op.equalIn 10000 96 (.agg (rowC c)) (.agg (rowC d))).run Tryz.prog w = .ok (eqC c d) w := by
  rw [run_equalIn_struct w 9999 96 _ _ (by kernel_rfl) (by kernel_rfl)]
  simp only [Program.fieldsOf, Tryz.underlying96]
  have a30 : ∀ w, (isAgg 26).run Tryz.prog w = .ok false w := fun _ => by kernel_rfl
  unfold eqC rowC
  refine P5.run_fields_cons w (by decide) (x := .int .u64 (C4.sI c.s)) (y := .int .u64 (C4.sI d.s)) (by simp [part, a30 w]) (by simp [part, a30 w]) (run_equalIn_int w 9998 _ .u64 .u64 _ _ Tryz.underlying26) ?_
  refine P5.run_fields_cons w (by decide) (x := .int .u64 c.c) (y := .int .u64 d.c) (by simp [part, a30 w]) (by simp [part, a30 w]) (run_equalIn_int w 9998 _ .u64 .u64 _ _ Tryz.underlying26) ?_
  refine P5.run_fields_cons w (by decide) (x := .int .u64 c.n) (y := .int .u64 d.n) (by simp [part, a30 w]) (by simp [part, a30 w]) (run_equalIn_int w 9998 _ .u64 .u64 _ _ Tryz.underlying26) ?_
  exact P5.run_fields_nil w _ _ _
theorem neq_refc (c d : C4.Cl) (w : World) : (binOp .neq 96 (.agg (rowC c)) (.agg (rowC d))).run Tryz.prog w = .ok (.bool (!eqC c d)) w := by
  rw [run_neq_struct, eq_refc]; rfl
theorem neq_refp (t u : P5.PS) (w : World) : (binOp .neq 104 (.agg (varr 194 (P5.cellR t))) (.agg (varr 194 (P5.cellR u)))).run Tryz.prog w = .ok (.bool (!P5.eqR t u)) w := by
  rw [run_neq_struct, P5.eq_ref]; rfl
theorem RefAt.rangeC {w : World} {b g : Nat} {c : C4.Cl} {p : P5.PS} {vp : Value} (h : RefAt w b g c p vp) : w.rangeAt b 1 (rowC c).toList := Fr.range (fqC g p vp) (by have h' := h; unfold RefAt at h'; rw [refRow_c] at h'; exact h')
theorem eqC_iff (c d : C4.Cl) : eqC c d = true ↔ c = d := by
  obtain ⟨s1, c1, n1⟩ := c
  obtain ⟨s2, c2, n2⟩ := d
  unfold eqC C4.sI
  simp only [Bool.and_true, Bool.and_eq_true, beq_iff_eq, C4.Cl.mk.injEq]
  cases s1 <;> cases s2 <;> simp

end Go.Proofs.YtbcnkhfpogglmaaGreatDoor

namespace Go.Proofs.YtbcnkhfpogglmaaGreatDoor
open Go.RowKit
set_option linter.unusedVariables false
set_option maxRecDepth 100000

/-- The law's own pair: one state, in blocks that are the law's. -/
def OwnT (w0 w : World) (b d N : Nat) (st : BS) : Prop := Below w0.heap.size w0 w ∧ ∃ F, Two w F b d N st st ∧ ∀ i, F i → w0.heap.size ≤ i
theorem NewF.bel {w0 w w' : World} {F F' : Nat → Prop} (h : Below w0.heap.size w0 w) (k : NewF w w' F F') (hF : ∀ i, F i → w0.heap.size ≤ i) : Below w0.heap.size w0 w' ∧ ∀ i, F' i → w0.heap.size ≤ i :=
  ⟨Below.thenOnly h k.1 hF h.size, fun i hi => by
    rcases k.2 i hi with a | a
    · exact hF i a
    · have := h.size; omega⟩
section
variable {w0 w w' : World} {b d N : Nat} {st : BS}
theorem OwnT.below (h : OwnT w0 w b d N st) (o : Below w.heap.size w w') : OwnT w0 w' b d N st := by
  obtain ⟨hb, F, ht, hF⟩ := h
  exact ⟨hb.trans (o.mono hb.size), F, ht.below o, hF⟩
theorem OwnT.both (h : OwnT w0 w b d N st) (hN : N < 900000) (x : ActV) (ha : In64 x.a) (hn : In63 x.n) (hv : In64 x.v) (hi : In63 x.i) : Calls Tryz.prog 21 #[.pointer (some ⟨b, 0, none⟩), .pointer (some ⟨d, 0, none⟩), actV x] w fun e w' => e = .returned (.bool true) ∧ ∃ st', OwnT w0 w' b d (N + 8) st' := by
  obtain ⟨hb, F, ht, hF⟩ := h
  refine (both_any ht hN x ha hn hv hi).mono fun e w' k => ?_
  obtain ⟨he, F', st', hnf, ht'⟩ := k
  have := NewF.bel hb hnf hF
  exact ⟨he, st', this.1, F', ht', this.2⟩
theorem OwnT.out (h : OwnT w0 w b d N st) (i : Int) : Calls Tryz.prog 17 #[.pointer (some ⟨b, 0, none⟩), .int .i64 i] w (OutE w (busOt st.us i)) := by
  obtain ⟨hb, F, ht, hF⟩ := h
  exact tOut ht i
theorem OwnT.len (h : OwnT w0 w b d N st) (i : Int) : (busOt st.us i).length ≤ 70000 := by
  obtain ⟨hb, F, ht, hF⟩ := h
  exact out_len ht i
/-- A twin's pair, and the old one, apart. -/
def TrioT (w0 w : World) (b d N : Nat) (st : BS) (bo : Nat) (so : BS) : Prop :=
  Below w0.heap.size w0 w ∧ ∃ F g K vp ul, Two w F b d N st st ∧ BusP w bo K g vp ul so ∧ (∀ i, ¬ K i = 0 → ¬ F i) ∧ ∀ i, (F i ∨ ¬ K i = 0) → w0.heap.size ≤ i
theorem TrioT.own {bo : Nat} {so : BS} (h : TrioT w0 w b d N st bo so) : OwnT w0 w b d N st := by
  obtain ⟨hb, F, g, K, vp, ul, ht, P, dj, hF⟩ := h
  exact ⟨hb, F, ht, fun i hi => hF i (.inl hi)⟩
end
end Go.Proofs.YtbcnkhfpogglmaaGreatDoor

namespace Go.Proofs.YtbcnkhfpogglmaaGreatDoor
open Go.RowKit
set_option linter.unusedVariables false
set_option maxRecDepth 100000

section
variable {w : World} {a b g h : Nat} {K L : Nat → Nat} {vp vq : Value} {ul um : List Nat} {N M : Nat} {st su : BS}
theorem refSame7_clint (H : BusR w a K g vp ul N st) (I : BusR w b L h vq um M su) (hne : ul.length = um.length) (hc : eqC st.c su.c = false) : Calls Tryz.prog 24 #[.pointer (some ⟨a, 0, none⟩), .pointer (some ⟨b, 0, none⟩)] w fun e w' => e = .returned (.bool false) ∧ Below w.heap.size w w' := by
  obtain ⟨av, cv, rfl, hcap⟩ := H.uarts.len
  obtain ⟨aw, cw, rfl, hcaw⟩ := I.uarts.len
  have HUA : Hid (∀ wx, Below w.heap.size w wx → wx.cell? ⟨a, 198, none⟩ = some (.slice av ul.length cv)) := Lib.hid fun wx o => (H.below o).obj.uarts_
  have HUB : Hid (∀ wx, Below w.heap.size w wx → wx.cell? ⟨b, 198, none⟩ = some (.slice aw um.length cw)) := Lib.hid fun wx o => (I.below o).obj.uarts_
  have HRA : Hid (∀ wx, Below w.heap.size w wx → wx.cell? ⟨a, 0, none⟩ = some (.pointer (some ⟨g, 0, none⟩))) := Lib.hid fun wx o => (H.below o).obj.ram_
  have HRB : Hid (∀ wx, Below w.heap.size w wx → wx.cell? ⟨b, 0, none⟩ = some (.pointer (some ⟨h, 0, none⟩))) := Lib.hid fun wx o => (I.below o).obj.ram_
  have HCA : Hid (∀ wx, Below w.heap.size w wx → wx.rangeAt a 1 (rowC st.c).toList) := Lib.hid fun wx o => (H.below o).obj.rangeC
  have HCB : Hid (∀ wx, Below w.heap.size w wx → wx.rangeAt b 1 (rowC su.c).toList) := Lib.hid fun wx o => (I.below o).obj.rangeC
  have HPA : Hid (∀ wx, Below w.heap.size w wx → wx.rangeAt a 4 (varr 194 (P5.cellR st.p)).toList) := Lib.hid fun wx o => (H.below o).obj.range
  have HPB : Hid (∀ wx, Below w.heap.size w wx → wx.rangeAt b 4 (varr 194 (P5.cellR su.p)).toList) := Lib.hid fun wx o => (I.below o).obj.range
  have HZA : Hid ((Tryz.prog.info? 96).map (·.size) = some (rowC st.c).size) := Lib.hid (by kernel_rfl)
  have HZB : Hid ((Tryz.prog.info? 96).map (·.size) = some (rowC su.c).size) := Lib.hid (by kernel_rfl)
  have HYA : Hid ((Tryz.prog.info? 104).map (·.size) = some (varr 194 (P5.cellR st.p)).size) := Lib.hid (P5.size_refP.trans (by rw [varr_size]))
  have HYB : Hid ((Tryz.prog.info? 104).map (·.size) = some (varr 194 (P5.cellR su.p)).size) := Lib.hid (P5.size_refP.trans (by rw [varr_size]))
  have HNC : Hid (∀ wx : World, (binOp .neq 96 (.agg (rowC st.c)) (.agg (rowC su.c))).run Tryz.prog wx = .ok (.bool true) wx) := Lib.hid fun wx => by rw [neq_refc, hc]; rfl
  clear H I hc
  rw [← hne] at HUB
  clear hne
  generalize ul.length = n at *
  generalize rowC st.c = ra at *
  generalize rowC su.c = rb at *
  generalize varr 194 (P5.cellR st.p) = pa at *
  generalize varr 194 (P5.cellR su.p) = pb at *
  have q : ((n : Int) != (n : Int)) = false := by simp
  go_enter Tryz.func24, Tryz.ntmps24
  go_wp2
  refine wp_region_held_drew (S := fun wx => Below w.heap.size w wx) (by kernel_rfl) ((Below.refl _ _).drew) (fun hHeld0 => ?_)
  have HS := Lib.hid hHeld0
  clear hHeld0
  refine takeD (i := 0) (some 18) (v := ?_) rfl rfl (by kernel_rfl) (by kernel_rfl) (by kernel_rfl) (fun _ _ _ h => h) (by rfl) HS.out ?_ ?_
  rotate_left
  · intro wx hSx
    clear hSx
    go_simp
    try (with_reducible rfl)
  simp only [Act.put, List.setIfInBounds_toArray, List.set_cons_zero, List.set_cons_succ]
  refine takeD (i := 1) (some 19) (v := ?_) rfl rfl (by kernel_rfl) (by kernel_rfl) (by kernel_rfl) (fun _ _ _ h => h) (by rfl) HS.out ?_ ?_
  rotate_left
  · intro wx hSx
    clear hSx
    go_simp
    try (with_reducible rfl)
  simp only [Act.put, List.setIfInBounds_toArray, List.set_cons_zero, List.set_cons_succ]
  refine takeD (i := 2) (some 20) (v := ?_) rfl rfl (by kernel_rfl) (by kernel_rfl) (by kernel_rfl) (fun _ _ _ h => h) (by rfl) HS.out ?_ ?_
  rotate_left
  · intro wx hSx
    clear hSx
    go_simp
    try (with_reducible rfl)
  simp only [Act.put, List.setIfInBounds_toArray, List.set_cons_zero, List.set_cons_succ]
  refine takeD (i := 3) (some 21) (v := ?_) rfl rfl (by kernel_rfl) (by kernel_rfl) (by kernel_rfl) (fun _ _ _ h => h) (by rfl) HS.out ?_ ?_
  rotate_left
  · intro wx hSx
    have ka := HUA.out wx hSx
    clear hSx
    go_simp
    try (with_reducible rfl)
  simp only [Act.put, List.setIfInBounds_toArray, List.set_cons_zero, List.set_cons_succ]
  refine takeD (i := 4) (some 22) (v := ?_) rfl rfl (by kernel_rfl) (by kernel_rfl) (by kernel_rfl) (fun _ _ _ h => h) (by rfl) HS.out ?_ ?_
  rotate_left
  · intro wx hSx
    clear hSx
    go_simp
    try (with_reducible rfl)
  simp only [Act.put, List.setIfInBounds_toArray, List.set_cons_zero, List.set_cons_succ]
  refine takeD (i := 5) (some 23) (v := ?_) rfl rfl (by kernel_rfl) (by kernel_rfl) (by kernel_rfl) (fun _ _ _ h => h) (by rfl) HS.out ?_ ?_
  rotate_left
  · intro wx hSx
    clear hSx
    go_simp
    try (with_reducible rfl)
  simp only [Act.put, List.setIfInBounds_toArray, List.set_cons_zero, List.set_cons_succ]
  refine takeD (i := 6) (some 24) (v := ?_) rfl rfl (by kernel_rfl) (by kernel_rfl) (by kernel_rfl) (fun _ _ _ h => h) (by rfl) HS.out ?_ ?_
  rotate_left
  · intro wx hSx
    clear hSx
    go_simp
    try (with_reducible rfl)
  simp only [Act.put, List.setIfInBounds_toArray, List.set_cons_zero, List.set_cons_succ]
  refine takeD (i := 7) (some 25) (v := ?_) rfl rfl (by kernel_rfl) (by kernel_rfl) (by kernel_rfl) (fun _ _ _ h => h) (by rfl) HS.out ?_ ?_
  rotate_left
  · intro wx hSx
    clear hSx
    go_simp
    try (with_reducible rfl)
  simp only [Act.put, List.setIfInBounds_toArray, List.set_cons_zero, List.set_cons_succ]
  refine takeD (i := 8) (some 26) (v := ?_) rfl rfl (by kernel_rfl) (by kernel_rfl) (by kernel_rfl) (fun _ _ _ h => h) (by rfl) HS.out ?_ ?_
  rotate_left
  · intro wx hSx
    have kb := HUB.out wx hSx
    clear hSx
    go_simp
    try (with_reducible rfl)
  simp only [Act.put, List.setIfInBounds_toArray, List.set_cons_zero, List.set_cons_succ]
  refine takeD (i := 9) (some 27) (v := ?_) rfl rfl (by kernel_rfl) (by kernel_rfl) (by kernel_rfl) (fun _ _ _ h => h) (by rfl) HS.out ?_ ?_
  rotate_left
  · intro wx hSx
    clear hSx
    go_simp
    try (with_reducible rfl)
  simp only [Act.put, List.setIfInBounds_toArray, List.set_cons_zero, List.set_cons_succ]
  refine takeD (i := 10) (some 28) (v := ?_) rfl rfl (by kernel_rfl) (by kernel_rfl) (by kernel_rfl) (fun _ _ _ h => h) (by rfl) HS.out ?_ ?_
  rotate_left
  · intro wx hSx
    clear hSx
    go_simp
    try (with_reducible rfl)
  simp only [Act.put, List.setIfInBounds_toArray, List.set_cons_zero, List.set_cons_succ]
  refine takeD (i := 11) (some 29) (v := ?_) rfl rfl (by kernel_rfl) (by kernel_rfl) (by kernel_rfl) (fun _ _ _ h => h) (by rfl) HS.out ?_ ?_
  rotate_left
  · intro wx hSx
    clear hSx
    go_simp
    try (with_reducible rfl)
  simp only [Act.put, List.setIfInBounds_toArray, List.set_cons_zero, List.set_cons_succ]
  refine takeD (i := 12) (some 30) (v := ?_) rfl rfl (by kernel_rfl) (by kernel_rfl) (by kernel_rfl) (fun _ _ _ h => h) (by rfl) HS.out ?_ ?_
  rotate_left
  · intro wx hSx
    clear hSx
    go_simp
    try (with_reducible rfl)
  simp only [Act.put, List.setIfInBounds_toArray, List.set_cons_zero, List.set_cons_succ]
  refine takeD (i := 13) (some 31) (v := ?_) rfl rfl (by kernel_rfl) (by kernel_rfl) (by kernel_rfl) (fun _ _ _ h => h) (by rfl) HS.out ?_ ?_
  rotate_left
  · intro wx hSx
    clear hSx
    go_simp
    try (with_reducible rfl)
  simp only [Act.put, List.setIfInBounds_toArray, List.set_cons_zero, List.set_cons_succ]
  refine takeD (i := 14) (some 32) (v := ?_) rfl rfl (by kernel_rfl) (by kernel_rfl) (by kernel_rfl) (fun _ _ _ h => h) (by rfl) HS.out ?_ ?_
  rotate_left
  · intro wx hSx
    clear hSx
    go_simp
    try (with_reducible rfl)
  simp only [Act.put, List.setIfInBounds_toArray, List.set_cons_zero, List.set_cons_succ]
  refine takeD (i := 15) (some 33) (v := ?_) rfl rfl (by kernel_rfl) (by kernel_rfl) (by kernel_rfl) (fun _ _ _ h => h) (by rfl) HS.out ?_ ?_
  rotate_left
  · intro wx hSx
    exact (by refine yield_fr _ (.tmp 32) ?_ a 1 ?_ (run_load_fr wx a 1 96 ra _ (HCA.out wx hSx) Tryz.underlying96 rfl HZA.out) <;> rfl)
  simp only [Act.put, List.setIfInBounds_toArray, List.set_cons_zero, List.set_cons_succ]
  refine takeD (i := 16) (some 34) (v := ?_) rfl rfl (by kernel_rfl) (by kernel_rfl) (by kernel_rfl) (fun _ _ _ h => h) (by rfl) HS.out ?_ ?_
  rotate_left
  · intro wx hSx
    clear hSx
    go_simp
    try (with_reducible rfl)
  simp only [Act.put, List.setIfInBounds_toArray, List.set_cons_zero, List.set_cons_succ]
  refine takeD (i := 17) (some 35) (v := ?_) rfl rfl (by kernel_rfl) (by kernel_rfl) (by kernel_rfl) (fun _ _ _ h => h) (by rfl) HS.out ?_ ?_
  rotate_left
  · intro wx hSx
    clear hSx
    go_simp
    try (with_reducible rfl)
  simp only [Act.put, List.setIfInBounds_toArray, List.set_cons_zero, List.set_cons_succ]
  refine takeD (i := 18) (some 36) (v := ?_) rfl rfl (by kernel_rfl) (by kernel_rfl) (by kernel_rfl) (fun _ _ _ h => h) (by rfl) HS.out ?_ ?_
  rotate_left
  · intro wx hSx
    clear hSx
    go_simp
    try (with_reducible rfl)
  simp only [Act.put, List.setIfInBounds_toArray, List.set_cons_zero, List.set_cons_succ]
  refine takeD (i := 19) (some 37) (v := ?_) rfl rfl (by kernel_rfl) (by kernel_rfl) (by kernel_rfl) (fun _ _ _ h => h) (by rfl) HS.out ?_ ?_
  rotate_left
  · intro wx hSx
    exact (by refine yield_fr _ (.tmp 36) ?_ b 1 ?_ (run_load_fr wx b 1 96 rb _ (HCB.out wx hSx) Tryz.underlying96 rfl HZB.out) <;> rfl)
  simp only [Act.put, List.setIfInBounds_toArray, List.set_cons_zero, List.set_cons_succ]
  refine takeD (i := 20) (some 38) (v := ?_) rfl rfl (by kernel_rfl) (by kernel_rfl) (by kernel_rfl) (fun _ _ _ h => h) (by rfl) HS.out ?_ ?_
  rotate_left
  · intro wx hSx
    exact (by refine yield_neq 96 96 (.tmp 33) (.tmp 37) ?_ ra rb ?_ ?_ (by kernel_rfl) _ (HNC.out wx) <;> rfl)
  simp only [Act.put, List.setIfInBounds_toArray, List.set_cons_zero, List.set_cons_succ]
  refine takeD (i := 21) (some 39) (v := ?_) rfl rfl (by kernel_rfl) (by kernel_rfl) (by kernel_rfl) (fun _ _ _ h => h) (by rfl) HS.out ?_ ?_
  rotate_left
  · intro wx hSx
    clear hSx
    go_simp
    try (with_reducible rfl)
  simp only [Act.put, List.setIfInBounds_toArray, List.set_cons_zero, List.set_cons_succ]
  refine takeD (i := 22) (some 40) (v := ?_) rfl rfl (by kernel_rfl) (by kernel_rfl) (by kernel_rfl) (fun _ _ _ h => h) (by rfl) HS.out ?_ ?_
  rotate_left
  · intro wx hSx
    clear hSx
    go_simp
    try (with_reducible rfl)
  simp only [Act.put, List.setIfInBounds_toArray, List.set_cons_zero, List.set_cons_succ]
  refine skipD (i := 23) (some 41) rfl rfl (by kernel_rfl) (by kernel_rfl) (by kernel_rfl) (fun _ _ _ h => h) (by rfl) HS.out ?_
  simp only [Act.put, List.setIfInBounds_toArray, List.set_cons_zero, List.set_cons_succ]
  refine skipD (i := 24) (some 42) rfl rfl (by kernel_rfl) (by kernel_rfl) (by kernel_rfl) (fun _ _ _ h => h) (by rfl) HS.out ?_
  simp only [Act.put, List.setIfInBounds_toArray, List.set_cons_zero, List.set_cons_succ]
  refine skipD (i := 25) (some 43) rfl rfl (by kernel_rfl) (by kernel_rfl) (by kernel_rfl) (fun _ _ _ h => h) (by rfl) HS.out ?_
  simp only [Act.put, List.setIfInBounds_toArray, List.set_cons_zero, List.set_cons_succ]
  refine skipD (i := 26) (some 44) rfl rfl (by kernel_rfl) (by kernel_rfl) (by kernel_rfl) (fun _ _ _ h => h) (by rfl) HS.out ?_
  simp only [Act.put, List.setIfInBounds_toArray, List.set_cons_zero, List.set_cons_succ]
  refine skipD (i := 27) (some 45) rfl rfl (by kernel_rfl) (by kernel_rfl) (by kernel_rfl) (fun _ _ _ h => h) (by rfl) HS.out ?_
  simp only [Act.put, List.setIfInBounds_toArray, List.set_cons_zero, List.set_cons_succ]
  refine skipD (i := 28) (some 46) rfl rfl (by kernel_rfl) (by kernel_rfl) (by kernel_rfl) (fun _ _ _ h => h) (by rfl) HS.out ?_
  simp only [Act.put, List.setIfInBounds_toArray, List.set_cons_zero, List.set_cons_succ]
  refine skipD (i := 29) (some 47) rfl rfl (by kernel_rfl) (by kernel_rfl) (by kernel_rfl) (fun _ _ _ h => h) (by rfl) HS.out ?_
  simp only [Act.put, List.setIfInBounds_toArray, List.set_cons_zero, List.set_cons_succ]
  refine skipD (i := 30) (some 48) rfl rfl (by kernel_rfl) (by kernel_rfl) (by kernel_rfl) (fun _ _ _ h => h) (by rfl) HS.out ?_
  simp only [Act.put, List.setIfInBounds_toArray, List.set_cons_zero, List.set_cons_succ]
  refine skipD (i := 31) (some 49) rfl rfl (by kernel_rfl) (by kernel_rfl) (by kernel_rfl) (fun _ _ _ h => h) (by rfl) HS.out ?_
  simp only [Act.put, List.setIfInBounds_toArray, List.set_cons_zero, List.set_cons_succ]
  refine takeD (i := 32) (some 50) (v := ?_) rfl rfl (by kernel_rfl) (by kernel_rfl) (by kernel_rfl) (fun _ _ _ h => h) (by rfl) HS.out ?_ ?_
  rotate_left
  · intro wx hSx
    clear hSx
    go_simp
    try (with_reducible rfl)
  simp only [Act.put, List.setIfInBounds_toArray, List.set_cons_zero, List.set_cons_succ]
  refine takeD (i := 33) (some 51) (v := ?_) rfl rfl (by kernel_rfl) (by kernel_rfl) (by kernel_rfl) (fun _ _ _ h => h) (by rfl) HS.out ?_ ?_
  rotate_left
  · intro wx hSx
    clear hSx
    go_simp
    try (with_reducible rfl)
  simp only [Act.put, List.setIfInBounds_toArray, List.set_cons_zero, List.set_cons_succ]
  refine skipD (i := 34) (some 52) rfl rfl (by kernel_rfl) (by kernel_rfl) (by kernel_rfl) (fun _ _ _ h => h) (by rfl) HS.out ?_
  simp only [Act.put, List.setIfInBounds_toArray, List.set_cons_zero, List.set_cons_succ]
  refine skipD (i := 35) (some 53) rfl rfl (by kernel_rfl) (by kernel_rfl) (by kernel_rfl) (fun _ _ _ h => h) (by rfl) HS.out ?_
  simp only [Act.put, List.setIfInBounds_toArray, List.set_cons_zero, List.set_cons_succ]
  refine skipD (i := 36) (some 54) rfl rfl (by kernel_rfl) (by kernel_rfl) (by kernel_rfl) (fun _ _ _ h => h) (by rfl) HS.out ?_
  simp only [Act.put, List.setIfInBounds_toArray, List.set_cons_zero, List.set_cons_succ]
  refine skipD (i := 37) (some 55) rfl rfl (by kernel_rfl) (by kernel_rfl) (by kernel_rfl) (fun _ _ _ h => h) (by rfl) HS.out ?_
  simp only [Act.put, List.setIfInBounds_toArray, List.set_cons_zero, List.set_cons_succ]
  refine skipD (i := 38) (some 56) rfl rfl (by kernel_rfl) (by kernel_rfl) (by kernel_rfl) (fun _ _ _ h => h) (by rfl) HS.out ?_
  simp only [Act.put, List.setIfInBounds_toArray, List.set_cons_zero, List.set_cons_succ]
  refine skipD (i := 39) (some 57) rfl rfl (by kernel_rfl) (by kernel_rfl) (by kernel_rfl) (fun _ _ _ h => h) (by rfl) HS.out ?_
  simp only [Act.put, List.setIfInBounds_toArray, List.set_cons_zero, List.set_cons_succ]
  refine skipD (i := 40) (some 58) rfl rfl (by kernel_rfl) (by kernel_rfl) (by kernel_rfl) (fun _ _ _ h => h) (by rfl) HS.out ?_
  simp only [Act.put, List.setIfInBounds_toArray, List.set_cons_zero, List.set_cons_succ]
  refine skipD (i := 41) (some 59) rfl rfl (by kernel_rfl) (by kernel_rfl) (by kernel_rfl) (fun _ _ _ h => h) (by rfl) HS.out ?_
  simp only [Act.put, List.setIfInBounds_toArray, List.set_cons_zero, List.set_cons_succ]
  refine skipD (i := 42) (some 60) rfl rfl (by kernel_rfl) (by kernel_rfl) (by kernel_rfl) (fun _ _ _ h => h) (by rfl) HS.out ?_
  simp only [Act.put, List.setIfInBounds_toArray, List.set_cons_zero, List.set_cons_succ]
  refine skipD (i := 43) (some 61) rfl rfl (by kernel_rfl) (by kernel_rfl) (by kernel_rfl) (fun _ _ _ h => h) (by rfl) HS.out ?_
  simp only [Act.put, List.setIfInBounds_toArray, List.set_cons_zero, List.set_cons_succ]
  refine takeD (i := 44) (some 62) (v := ?_) rfl rfl (by kernel_rfl) (by kernel_rfl) (by kernel_rfl) (fun _ _ _ h => h) (by rfl) HS.out ?_ ?_
  rotate_left
  · intro wx hSx
    clear hSx
    go_simp
    try (with_reducible rfl)
  simp only [Act.put, List.setIfInBounds_toArray, List.set_cons_zero, List.set_cons_succ]
  refine wpAnyH_done (by kernel_rfl) ?_ _
  go_wp2
  go_ret
  exact ⟨rfl, HS.out⟩
theorem refSame7_plic (H : BusR w a K g vp ul N st) (I : BusR w b L h vq um M su) (hne : ul.length = um.length) (hc : eqC st.c su.c = true) (hp : P5.eqR st.p su.p = false) : Calls Tryz.prog 24 #[.pointer (some ⟨a, 0, none⟩), .pointer (some ⟨b, 0, none⟩)] w fun e w' => e = .returned (.bool false) ∧ Below w.heap.size w w' := by
  obtain ⟨av, cv, rfl, hcap⟩ := H.uarts.len
  obtain ⟨aw, cw, rfl, hcaw⟩ := I.uarts.len
  have HUA : Hid (∀ wx, Below w.heap.size w wx → wx.cell? ⟨a, 198, none⟩ = some (.slice av ul.length cv)) := Lib.hid fun wx o => (H.below o).obj.uarts_
  have HUB : Hid (∀ wx, Below w.heap.size w wx → wx.cell? ⟨b, 198, none⟩ = some (.slice aw um.length cw)) := Lib.hid fun wx o => (I.below o).obj.uarts_
  have HRA : Hid (∀ wx, Below w.heap.size w wx → wx.cell? ⟨a, 0, none⟩ = some (.pointer (some ⟨g, 0, none⟩))) := Lib.hid fun wx o => (H.below o).obj.ram_
  have HRB : Hid (∀ wx, Below w.heap.size w wx → wx.cell? ⟨b, 0, none⟩ = some (.pointer (some ⟨h, 0, none⟩))) := Lib.hid fun wx o => (I.below o).obj.ram_
  have HCA : Hid (∀ wx, Below w.heap.size w wx → wx.rangeAt a 1 (rowC st.c).toList) := Lib.hid fun wx o => (H.below o).obj.rangeC
  have HCB : Hid (∀ wx, Below w.heap.size w wx → wx.rangeAt b 1 (rowC su.c).toList) := Lib.hid fun wx o => (I.below o).obj.rangeC
  have HPA : Hid (∀ wx, Below w.heap.size w wx → wx.rangeAt a 4 (varr 194 (P5.cellR st.p)).toList) := Lib.hid fun wx o => (H.below o).obj.range
  have HPB : Hid (∀ wx, Below w.heap.size w wx → wx.rangeAt b 4 (varr 194 (P5.cellR su.p)).toList) := Lib.hid fun wx o => (I.below o).obj.range
  have HZA : Hid ((Tryz.prog.info? 96).map (·.size) = some (rowC st.c).size) := Lib.hid (by kernel_rfl)
  have HZB : Hid ((Tryz.prog.info? 96).map (·.size) = some (rowC su.c).size) := Lib.hid (by kernel_rfl)
  have HYA : Hid ((Tryz.prog.info? 104).map (·.size) = some (varr 194 (P5.cellR st.p)).size) := Lib.hid (P5.size_refP.trans (by rw [varr_size]))
  have HYB : Hid ((Tryz.prog.info? 104).map (·.size) = some (varr 194 (P5.cellR su.p)).size) := Lib.hid (P5.size_refP.trans (by rw [varr_size]))
  have HNC : Hid (∀ wx : World, (binOp .neq 96 (.agg (rowC st.c)) (.agg (rowC su.c))).run Tryz.prog wx = .ok (.bool false) wx) := Lib.hid fun wx => by rw [neq_refc, hc]; rfl
  have HNP : Hid (∀ wx : World, (binOp .neq 104 (.agg (varr 194 (P5.cellR st.p))) (.agg (varr 194 (P5.cellR su.p)))).run Tryz.prog wx = .ok (.bool true) wx) := Lib.hid fun wx => by rw [neq_refp, hp]; rfl
  clear H I hc hp
  rw [← hne] at HUB
  clear hne
  generalize ul.length = n at *
  generalize rowC st.c = ra at *
  generalize rowC su.c = rb at *
  generalize varr 194 (P5.cellR st.p) = pa at *
  generalize varr 194 (P5.cellR su.p) = pb at *
  have q : ((n : Int) != (n : Int)) = false := by simp
  go_enter Tryz.func24, Tryz.ntmps24
  go_wp2
  refine wp_region_held_drew (S := fun wx => Below w.heap.size w wx) (by kernel_rfl) ((Below.refl _ _).drew) (fun hHeld0 => ?_)
  have HS := Lib.hid hHeld0
  clear hHeld0
  refine takeD (i := 0) (some 18) (v := ?_) rfl rfl (by kernel_rfl) (by kernel_rfl) (by kernel_rfl) (fun _ _ _ h => h) (by rfl) HS.out ?_ ?_
  rotate_left
  · intro wx hSx
    clear hSx
    go_simp
    try (with_reducible rfl)
  simp only [Act.put, List.setIfInBounds_toArray, List.set_cons_zero, List.set_cons_succ]
  refine takeD (i := 1) (some 19) (v := ?_) rfl rfl (by kernel_rfl) (by kernel_rfl) (by kernel_rfl) (fun _ _ _ h => h) (by rfl) HS.out ?_ ?_
  rotate_left
  · intro wx hSx
    clear hSx
    go_simp
    try (with_reducible rfl)
  simp only [Act.put, List.setIfInBounds_toArray, List.set_cons_zero, List.set_cons_succ]
  refine takeD (i := 2) (some 20) (v := ?_) rfl rfl (by kernel_rfl) (by kernel_rfl) (by kernel_rfl) (fun _ _ _ h => h) (by rfl) HS.out ?_ ?_
  rotate_left
  · intro wx hSx
    clear hSx
    go_simp
    try (with_reducible rfl)
  simp only [Act.put, List.setIfInBounds_toArray, List.set_cons_zero, List.set_cons_succ]
  refine takeD (i := 3) (some 21) (v := ?_) rfl rfl (by kernel_rfl) (by kernel_rfl) (by kernel_rfl) (fun _ _ _ h => h) (by rfl) HS.out ?_ ?_
  rotate_left
  · intro wx hSx
    have ka := HUA.out wx hSx
    clear hSx
    go_simp
    try (with_reducible rfl)
  simp only [Act.put, List.setIfInBounds_toArray, List.set_cons_zero, List.set_cons_succ]
  refine takeD (i := 4) (some 22) (v := ?_) rfl rfl (by kernel_rfl) (by kernel_rfl) (by kernel_rfl) (fun _ _ _ h => h) (by rfl) HS.out ?_ ?_
  rotate_left
  · intro wx hSx
    clear hSx
    go_simp
    try (with_reducible rfl)
  simp only [Act.put, List.setIfInBounds_toArray, List.set_cons_zero, List.set_cons_succ]
  refine takeD (i := 5) (some 23) (v := ?_) rfl rfl (by kernel_rfl) (by kernel_rfl) (by kernel_rfl) (fun _ _ _ h => h) (by rfl) HS.out ?_ ?_
  rotate_left
  · intro wx hSx
    clear hSx
    go_simp
    try (with_reducible rfl)
  simp only [Act.put, List.setIfInBounds_toArray, List.set_cons_zero, List.set_cons_succ]
  refine takeD (i := 6) (some 24) (v := ?_) rfl rfl (by kernel_rfl) (by kernel_rfl) (by kernel_rfl) (fun _ _ _ h => h) (by rfl) HS.out ?_ ?_
  rotate_left
  · intro wx hSx
    clear hSx
    go_simp
    try (with_reducible rfl)
  simp only [Act.put, List.setIfInBounds_toArray, List.set_cons_zero, List.set_cons_succ]
  refine takeD (i := 7) (some 25) (v := ?_) rfl rfl (by kernel_rfl) (by kernel_rfl) (by kernel_rfl) (fun _ _ _ h => h) (by rfl) HS.out ?_ ?_
  rotate_left
  · intro wx hSx
    clear hSx
    go_simp
    try (with_reducible rfl)
  simp only [Act.put, List.setIfInBounds_toArray, List.set_cons_zero, List.set_cons_succ]
  refine takeD (i := 8) (some 26) (v := ?_) rfl rfl (by kernel_rfl) (by kernel_rfl) (by kernel_rfl) (fun _ _ _ h => h) (by rfl) HS.out ?_ ?_
  rotate_left
  · intro wx hSx
    have kb := HUB.out wx hSx
    clear hSx
    go_simp
    try (with_reducible rfl)
  simp only [Act.put, List.setIfInBounds_toArray, List.set_cons_zero, List.set_cons_succ]
  refine takeD (i := 9) (some 27) (v := ?_) rfl rfl (by kernel_rfl) (by kernel_rfl) (by kernel_rfl) (fun _ _ _ h => h) (by rfl) HS.out ?_ ?_
  rotate_left
  · intro wx hSx
    clear hSx
    go_simp
    try (with_reducible rfl)
  simp only [Act.put, List.setIfInBounds_toArray, List.set_cons_zero, List.set_cons_succ]
  refine takeD (i := 10) (some 28) (v := ?_) rfl rfl (by kernel_rfl) (by kernel_rfl) (by kernel_rfl) (fun _ _ _ h => h) (by rfl) HS.out ?_ ?_
  rotate_left
  · intro wx hSx
    clear hSx
    go_simp
    try (with_reducible rfl)
  simp only [Act.put, List.setIfInBounds_toArray, List.set_cons_zero, List.set_cons_succ]
  refine takeD (i := 11) (some 29) (v := ?_) rfl rfl (by kernel_rfl) (by kernel_rfl) (by kernel_rfl) (fun _ _ _ h => h) (by rfl) HS.out ?_ ?_
  rotate_left
  · intro wx hSx
    clear hSx
    go_simp
    try (with_reducible rfl)
  simp only [Act.put, List.setIfInBounds_toArray, List.set_cons_zero, List.set_cons_succ]
  refine takeD (i := 12) (some 30) (v := ?_) rfl rfl (by kernel_rfl) (by kernel_rfl) (by kernel_rfl) (fun _ _ _ h => h) (by rfl) HS.out ?_ ?_
  rotate_left
  · intro wx hSx
    clear hSx
    go_simp
    try (with_reducible rfl)
  simp only [Act.put, List.setIfInBounds_toArray, List.set_cons_zero, List.set_cons_succ]
  refine takeD (i := 13) (some 31) (v := ?_) rfl rfl (by kernel_rfl) (by kernel_rfl) (by kernel_rfl) (fun _ _ _ h => h) (by rfl) HS.out ?_ ?_
  rotate_left
  · intro wx hSx
    clear hSx
    go_simp
    try (with_reducible rfl)
  simp only [Act.put, List.setIfInBounds_toArray, List.set_cons_zero, List.set_cons_succ]
  refine takeD (i := 14) (some 32) (v := ?_) rfl rfl (by kernel_rfl) (by kernel_rfl) (by kernel_rfl) (fun _ _ _ h => h) (by rfl) HS.out ?_ ?_
  rotate_left
  · intro wx hSx
    clear hSx
    go_simp
    try (with_reducible rfl)
  simp only [Act.put, List.setIfInBounds_toArray, List.set_cons_zero, List.set_cons_succ]
  refine takeD (i := 15) (some 33) (v := ?_) rfl rfl (by kernel_rfl) (by kernel_rfl) (by kernel_rfl) (fun _ _ _ h => h) (by rfl) HS.out ?_ ?_
  rotate_left
  · intro wx hSx
    exact (by refine yield_fr _ (.tmp 32) ?_ a 1 ?_ (run_load_fr wx a 1 96 ra _ (HCA.out wx hSx) Tryz.underlying96 rfl HZA.out) <;> rfl)
  simp only [Act.put, List.setIfInBounds_toArray, List.set_cons_zero, List.set_cons_succ]
  refine takeD (i := 16) (some 34) (v := ?_) rfl rfl (by kernel_rfl) (by kernel_rfl) (by kernel_rfl) (fun _ _ _ h => h) (by rfl) HS.out ?_ ?_
  rotate_left
  · intro wx hSx
    clear hSx
    go_simp
    try (with_reducible rfl)
  simp only [Act.put, List.setIfInBounds_toArray, List.set_cons_zero, List.set_cons_succ]
  refine takeD (i := 17) (some 35) (v := ?_) rfl rfl (by kernel_rfl) (by kernel_rfl) (by kernel_rfl) (fun _ _ _ h => h) (by rfl) HS.out ?_ ?_
  rotate_left
  · intro wx hSx
    clear hSx
    go_simp
    try (with_reducible rfl)
  simp only [Act.put, List.setIfInBounds_toArray, List.set_cons_zero, List.set_cons_succ]
  refine takeD (i := 18) (some 36) (v := ?_) rfl rfl (by kernel_rfl) (by kernel_rfl) (by kernel_rfl) (fun _ _ _ h => h) (by rfl) HS.out ?_ ?_
  rotate_left
  · intro wx hSx
    clear hSx
    go_simp
    try (with_reducible rfl)
  simp only [Act.put, List.setIfInBounds_toArray, List.set_cons_zero, List.set_cons_succ]
  refine takeD (i := 19) (some 37) (v := ?_) rfl rfl (by kernel_rfl) (by kernel_rfl) (by kernel_rfl) (fun _ _ _ h => h) (by rfl) HS.out ?_ ?_
  rotate_left
  · intro wx hSx
    exact (by refine yield_fr _ (.tmp 36) ?_ b 1 ?_ (run_load_fr wx b 1 96 rb _ (HCB.out wx hSx) Tryz.underlying96 rfl HZB.out) <;> rfl)
  simp only [Act.put, List.setIfInBounds_toArray, List.set_cons_zero, List.set_cons_succ]
  refine takeD (i := 20) (some 38) (v := ?_) rfl rfl (by kernel_rfl) (by kernel_rfl) (by kernel_rfl) (fun _ _ _ h => h) (by rfl) HS.out ?_ ?_
  rotate_left
  · intro wx hSx
    exact (by refine yield_neq 96 96 (.tmp 33) (.tmp 37) ?_ ra rb ?_ ?_ (by kernel_rfl) _ (HNC.out wx) <;> rfl)
  simp only [Act.put, List.setIfInBounds_toArray, List.set_cons_zero, List.set_cons_succ]
  refine takeD (i := 21) (some 39) (v := ?_) rfl rfl (by kernel_rfl) (by kernel_rfl) (by kernel_rfl) (fun _ _ _ h => h) (by rfl) HS.out ?_ ?_
  rotate_left
  · intro wx hSx
    clear hSx
    go_simp
    try (with_reducible rfl)
  simp only [Act.put, List.setIfInBounds_toArray, List.set_cons_zero, List.set_cons_succ]
  refine takeD (i := 22) (some 40) (v := ?_) rfl rfl (by kernel_rfl) (by kernel_rfl) (by kernel_rfl) (fun _ _ _ h => h) (by rfl) HS.out ?_ ?_
  rotate_left
  · intro wx hSx
    clear hSx
    go_simp
    try (with_reducible rfl)
  simp only [Act.put, List.setIfInBounds_toArray, List.set_cons_zero, List.set_cons_succ]
  refine takeD (i := 23) (some 41) (v := ?_) rfl rfl (by kernel_rfl) (by kernel_rfl) (by kernel_rfl) (fun _ _ _ h => h) (by rfl) HS.out ?_ ?_
  rotate_left
  · intro wx hSx
    clear hSx
    go_simp
    try (with_reducible rfl)
  simp only [Act.put, List.setIfInBounds_toArray, List.set_cons_zero, List.set_cons_succ]
  refine takeD (i := 24) (some 42) (v := ?_) rfl rfl (by kernel_rfl) (by kernel_rfl) (by kernel_rfl) (fun _ _ _ h => h) (by rfl) HS.out ?_ ?_
  rotate_left
  · intro wx hSx
    clear hSx
    go_simp
    try (with_reducible rfl)
  simp only [Act.put, List.setIfInBounds_toArray, List.set_cons_zero, List.set_cons_succ]
  refine takeD (i := 25) (some 43) (v := ?_) rfl rfl (by kernel_rfl) (by kernel_rfl) (by kernel_rfl) (fun _ _ _ h => h) (by rfl) HS.out ?_ ?_
  rotate_left
  · intro wx hSx
    clear hSx
    go_simp
    try (with_reducible rfl)
  simp only [Act.put, List.setIfInBounds_toArray, List.set_cons_zero, List.set_cons_succ]
  refine takeD (i := 26) (some 44) (v := ?_) rfl rfl (by kernel_rfl) (by kernel_rfl) (by kernel_rfl) (fun _ _ _ h => h) (by rfl) HS.out ?_ ?_
  rotate_left
  · intro wx hSx
    exact (by refine yield_fr _ (.tmp 43) ?_ a 4 ?_ (run_load_fr wx a 4 104 pa _ (HPA.out wx hSx) Tryz.underlying104 rfl HYA.out) <;> rfl)
  simp only [Act.put, List.setIfInBounds_toArray, List.set_cons_zero, List.set_cons_succ]
  refine takeD (i := 27) (some 45) (v := ?_) rfl rfl (by kernel_rfl) (by kernel_rfl) (by kernel_rfl) (fun _ _ _ h => h) (by rfl) HS.out ?_ ?_
  rotate_left
  · intro wx hSx
    clear hSx
    go_simp
    try (with_reducible rfl)
  simp only [Act.put, List.setIfInBounds_toArray, List.set_cons_zero, List.set_cons_succ]
  refine takeD (i := 28) (some 46) (v := ?_) rfl rfl (by kernel_rfl) (by kernel_rfl) (by kernel_rfl) (fun _ _ _ h => h) (by rfl) HS.out ?_ ?_
  rotate_left
  · intro wx hSx
    clear hSx
    go_simp
    try (with_reducible rfl)
  simp only [Act.put, List.setIfInBounds_toArray, List.set_cons_zero, List.set_cons_succ]
  refine takeD (i := 29) (some 47) (v := ?_) rfl rfl (by kernel_rfl) (by kernel_rfl) (by kernel_rfl) (fun _ _ _ h => h) (by rfl) HS.out ?_ ?_
  rotate_left
  · intro wx hSx
    clear hSx
    go_simp
    try (with_reducible rfl)
  simp only [Act.put, List.setIfInBounds_toArray, List.set_cons_zero, List.set_cons_succ]
  refine takeD (i := 30) (some 48) (v := ?_) rfl rfl (by kernel_rfl) (by kernel_rfl) (by kernel_rfl) (fun _ _ _ h => h) (by rfl) HS.out ?_ ?_
  rotate_left
  · intro wx hSx
    exact (by refine yield_fr _ (.tmp 47) ?_ b 4 ?_ (run_load_fr wx b 4 104 pb _ (HPB.out wx hSx) Tryz.underlying104 rfl HYB.out) <;> rfl)
  simp only [Act.put, List.setIfInBounds_toArray, List.set_cons_zero, List.set_cons_succ]
  refine takeD (i := 31) (some 49) (v := ?_) rfl rfl (by kernel_rfl) (by kernel_rfl) (by kernel_rfl) (fun _ _ _ h => h) (by rfl) HS.out ?_ ?_
  rotate_left
  · intro wx hSx
    exact (by refine yield_neq 104 104 (.tmp 44) (.tmp 48) ?_ pa pb ?_ ?_ (by kernel_rfl) _ (HNP.out wx) <;> rfl)
  simp only [Act.put, List.setIfInBounds_toArray, List.set_cons_zero, List.set_cons_succ]
  refine takeD (i := 32) (some 50) (v := ?_) rfl rfl (by kernel_rfl) (by kernel_rfl) (by kernel_rfl) (fun _ _ _ h => h) (by rfl) HS.out ?_ ?_
  rotate_left
  · intro wx hSx
    clear hSx
    go_simp
    try (with_reducible rfl)
  simp only [Act.put, List.setIfInBounds_toArray, List.set_cons_zero, List.set_cons_succ]
  refine takeD (i := 33) (some 51) (v := ?_) rfl rfl (by kernel_rfl) (by kernel_rfl) (by kernel_rfl) (fun _ _ _ h => h) (by rfl) HS.out ?_ ?_
  rotate_left
  · intro wx hSx
    clear hSx
    go_simp
    try (with_reducible rfl)
  simp only [Act.put, List.setIfInBounds_toArray, List.set_cons_zero, List.set_cons_succ]
  refine skipD (i := 34) (some 52) rfl rfl (by kernel_rfl) (by kernel_rfl) (by kernel_rfl) (fun _ _ _ h => h) (by rfl) HS.out ?_
  simp only [Act.put, List.setIfInBounds_toArray, List.set_cons_zero, List.set_cons_succ]
  refine skipD (i := 35) (some 53) rfl rfl (by kernel_rfl) (by kernel_rfl) (by kernel_rfl) (fun _ _ _ h => h) (by rfl) HS.out ?_
  simp only [Act.put, List.setIfInBounds_toArray, List.set_cons_zero, List.set_cons_succ]
  refine skipD (i := 36) (some 54) rfl rfl (by kernel_rfl) (by kernel_rfl) (by kernel_rfl) (fun _ _ _ h => h) (by rfl) HS.out ?_
  simp only [Act.put, List.setIfInBounds_toArray, List.set_cons_zero, List.set_cons_succ]
  refine skipD (i := 37) (some 55) rfl rfl (by kernel_rfl) (by kernel_rfl) (by kernel_rfl) (fun _ _ _ h => h) (by rfl) HS.out ?_
  simp only [Act.put, List.setIfInBounds_toArray, List.set_cons_zero, List.set_cons_succ]
  refine skipD (i := 38) (some 56) rfl rfl (by kernel_rfl) (by kernel_rfl) (by kernel_rfl) (fun _ _ _ h => h) (by rfl) HS.out ?_
  simp only [Act.put, List.setIfInBounds_toArray, List.set_cons_zero, List.set_cons_succ]
  refine skipD (i := 39) (some 57) rfl rfl (by kernel_rfl) (by kernel_rfl) (by kernel_rfl) (fun _ _ _ h => h) (by rfl) HS.out ?_
  simp only [Act.put, List.setIfInBounds_toArray, List.set_cons_zero, List.set_cons_succ]
  refine skipD (i := 40) (some 58) rfl rfl (by kernel_rfl) (by kernel_rfl) (by kernel_rfl) (fun _ _ _ h => h) (by rfl) HS.out ?_
  simp only [Act.put, List.setIfInBounds_toArray, List.set_cons_zero, List.set_cons_succ]
  refine skipD (i := 41) (some 59) rfl rfl (by kernel_rfl) (by kernel_rfl) (by kernel_rfl) (fun _ _ _ h => h) (by rfl) HS.out ?_
  simp only [Act.put, List.setIfInBounds_toArray, List.set_cons_zero, List.set_cons_succ]
  refine skipD (i := 42) (some 60) rfl rfl (by kernel_rfl) (by kernel_rfl) (by kernel_rfl) (fun _ _ _ h => h) (by rfl) HS.out ?_
  simp only [Act.put, List.setIfInBounds_toArray, List.set_cons_zero, List.set_cons_succ]
  refine skipD (i := 43) (some 61) rfl rfl (by kernel_rfl) (by kernel_rfl) (by kernel_rfl) (fun _ _ _ h => h) (by rfl) HS.out ?_
  simp only [Act.put, List.setIfInBounds_toArray, List.set_cons_zero, List.set_cons_succ]
  refine takeD (i := 44) (some 62) (v := ?_) rfl rfl (by kernel_rfl) (by kernel_rfl) (by kernel_rfl) (fun _ _ _ h => h) (by rfl) HS.out ?_ ?_
  rotate_left
  · intro wx hSx
    clear hSx
    go_simp
    try (with_reducible rfl)
  simp only [Act.put, List.setIfInBounds_toArray, List.set_cons_zero, List.set_cons_succ]
  refine wpAnyH_done (by kernel_rfl) ?_ _
  go_wp2
  go_ret
  exact ⟨rfl, HS.out⟩
end

end Go.Proofs.YtbcnkhfpogglmaaGreatDoor
