/- Layer 6's laws: a uart of the program and the document's, of one state, apart; an act by both. -/
import Derived.Test.YtcbjfkbmbjmnbaaDoorUp
import Derived.Test.YtcbjfkbmbjmnbaaDoorUj
import Derived.Test.YtcbjfkbmbjmnbaaDoorUaActs
namespace Go.Proofs.YtcbjfkbmbjmnbaaDoor
open Go.RowKit
set_option linter.unusedVariables false

/-- A uart of the program and the document's, of one state, apart from each other and from the table; T holds their blocks. -/
structure Duo (w : World) (a c : Nat) (Fa Fc T : Nat → Prop) (t : US) : Prop where
  pa : UP w a Fa t
  rc : UR w c Fc t
  ac : ∀ i, Fa i → ¬ Fc i
  ta : ∀ i, Fa i → T i
  tc : ∀ i, Fc i → T i
  tab : Tab w
  nt : ¬ T 0
theorem UP.lt {w : World} {b : Nat} {F : Nat → Prop} {t : US} (h : UP w b F t) : ∀ i, F i → i < w.heap.size := by obtain ⟨_, _, h⟩ := h; exact h.lt
theorem UR.lt {w : World} {b : Nat} {F : Nat → Prop} {t : US} (h : UR w b F t) : ∀ i, F i → i < w.heap.size := by obtain ⟨_, _, h⟩ := h; exact h.lt
theorem UP.ok {w : World} {b : Nat} {F : Nat → Prop} {t : US} (h : UP w b F t) : t.ok := by obtain ⟨_, _, h⟩ := h; exact h.ok
theorem UP.byt {w : World} {b : Nat} {F : Nat → Prop} {t : US} (h : UP w b F t) : Byt t.inn ∧ Byt t.out := by obtain ⟨_, _, h⟩ := h; exact ⟨h.ri.byt, h.ro.byt⟩
theorem UP.keeps {w w' : World} {b : Nat} {F T : Nat → Prop} {t : US} (h : UP w b F t) (o : Only T w w') (hd : ∀ i, F i → ¬ T i) : UP w' b F t := by obtain ⟨_, _, h⟩ := h; exact ⟨_, _, h.keeps o hd⟩
theorem UR.keeps {w w' : World} {b : Nat} {F T : Nat → Prop} {t : US} (h : UR w b F t) (o : Only T w w') (hd : ∀ i, F i → ¬ T i) : UR w' b F t := by obtain ⟨_, _, h⟩ := h; exact ⟨_, _, h.keeps o hd⟩
theorem UP.below {w w' : World} {b : Nat} {F : Nat → Prop} {t : US} (h : UP w b F t) (o : Below w.heap.size w w') : UP w' b F t := h.keeps (Only.of_below (fun _ => False) o) fun _ _ => id
theorem UR.below {w w' : World} {b : Nat} {F : Nat → Prop} {t : US} (h : UR w b F t) (o : Below w.heap.size w w') : UR w' b F t := h.keeps (Only.of_below (fun _ => False) o) fun _ _ => id
theorem Duo.keeps {w w' : World} {a c : Nat} {Fa Fc T U : Nat → Prop} {t : US} (h : Duo w a c Fa Fc T t) (o : Only U w w') (hd : ∀ i, T i → ¬ U i) (hg : ¬ U 0) : Duo w' a c Fa Fc T t :=
  { h with pa := h.pa.keeps o fun i hi => hd i (h.ta i hi), rc := h.rc.keeps o fun i hi => hd i (h.tc i hi), tab := h.tab.keeps o hg }
theorem Duo.below {w w' : World} {a c : Nat} {Fa Fc T : Nat → Prop} {t : US} (h : Duo w a c Fa Fc T t) (o : Below w.heap.size w w') : Duo w' a c Fa Fc T t := h.keeps (Only.of_below (fun _ => False) o) (fun _ _ => id) id
theorem Duo.na {w : World} {a c : Nat} {Fa Fc T : Nat → Prop} {t : US} (h : Duo w a c Fa Fc T t) : ¬ Fa 0 := fun hi => h.nt (h.ta _ hi)
theorem Duo.ca {w : World} {a c : Nat} {Fa Fc T : Nat → Prop} {t : US} (h : Duo w a c Fa Fc T t) : ∀ i, Fc i → ¬ Fa i := fun i hi hj => h.ac i hj hi
theorem EndU.only {mk : Value → Value → US → Array Value} {ty : TypeId} {w w' : World} {b : Nat} {F : Nat → Prop} {t : US} (h : EndU mk ty w b F t w') : Only F w w' := h.1
/-- What an act leaves. -/
def DuoEnd (w : World) (a c : Nat) (T : Nat → Prop) (t' : US) (w' : World) : Prop := Only T w w' ∧ ∃ Fa Fc T', (∀ i, T' i → (T i ∨ w.heap.size ≤ i) ∧ i < w'.heap.size) ∧ Duo w' a c Fa Fc T' t'
theorem DuoEnd.same {w w' : World} {a c : Nat} {Fa Fc T : Nat → Prop} {t : US} (h : Duo w a c Fa Fc T t) (o : Below w.heap.size w w') : DuoEnd w a c T t w' := by
  have h2 := h.below o
  refine ⟨Only.of_below _ o, Fa, Fc, fun i => Fa i ∨ Fc i, fun i hi => ⟨.inl (hi.elim (h.ta i) (h.tc i)), hi.elim (h2.pa.lt i) (h2.rc.lt i)⟩, { h2 with ta := fun i hi => .inl hi, tc := fun i hi => .inr hi, nt := fun hi => h.nt (hi.elim (h.ta _) (h.tc _)) }⟩
/-- The program's call, then the document's: both have become t'. -/
theorem DuoEnd.both {w w1 w2 w3 : World} {a c : Nat} {Fa Fc T : Nat → Prop} {t t' : US} (h : Duo w a c Fa Fc T t) (o : Below w.heap.size w w1) (k1 : EndU cellsP 52 w1 a Fa t' w2) (k2 : EndU cellsR 42 w2 c Fc t' w3) : DuoEnd w a c T t' w3 := by
  obtain ⟨o1, F1, hF1, vi1, vo1, h1⟩ := k1
  obtain ⟨o2, F2, hF2, vi2, vo2, h2⟩ := k2
  have s := o.size
  have s1 := o1.size
  have s2 := o2.size
  have la := h.pa.lt
  have lc := h.rc.lt
  have lt1 := h1.lt
  have lt2 := h2.lt
  have htl := h.tab.lt
  have d12 : ∀ i, F1 i → ¬ Fc i := fun i hi hc => by
    rcases hF1 i hi with h3 | h3
    · exact h.ac i h3 hc
    · have := lc i hc; omega
  have n1 : ∀ i, F1 i → T i ∨ w.heap.size ≤ i := fun i hi => by
    rcases hF1 i hi with h3 | h3
    · exact .inl (h.ta i h3)
    · exact .inr (by omega)
  have n2 : ∀ i, F2 i → T i ∨ w.heap.size ≤ i := fun i hi => by
    rcases hF2 i hi with h3 | h3
    · exact .inl (h.tc i h3)
    · exact .inr (by omega)
  refine ⟨((Only.of_below T o).trans (o1.mono fun i hi => .inl (h.ta i hi))).trans (o2.mono fun i hi => .inl (h.tc i hi)), F1, F2, fun i => F1 i ∨ F2 i, fun i hi => ⟨hi.elim (n1 i) (n2 i), hi.elim (fun h => by have := lt1 i h; omega) (lt2 i)⟩,
    ⟨⟨vi1, vo1, h1.keeps o2 d12⟩, ⟨vi2, vo2, h2⟩, fun i hi hc => ?_, fun i hi => .inl hi, fun i hi => .inr hi, ?_, ?_⟩⟩
  · rcases hF2 i hc with h3 | h3
    · exact d12 i hi h3
    · have := lt1 i hi; omega
  · exact ((h.tab.below o).keeps o1 fun hi => h.nt (h.ta _ hi)).keeps o2 fun hi => h.nt (h.tc _ hi)
  · rintro (hi | hi)
    · rcases n1 _ hi with h3 | h3
      · exact h.nt h3
      · omega
    · rcases n2 _ hi with h3 | h3
      · exact h.nt h3
      · omega

/-- What an act leaves of a state. -/
def actT (t : US) (x : ActV) : US := if x.d = 0 then wrT t (x.v % 256) (plK t x.a x.n) else if x.d = 1 then rdT t (plK t x.a x.n) else if x.d = 2 then feedT t (x.v % 256) else t
def BothEnd (w : World) (a c : Nat) (T : Nat → Prop) (t' : US) (e : Ending) (w' : World) : Prop := e = .returned (.bool true) ∧ DuoEnd w a c T t' w'
def actVal (x : ActV) : Value := .agg #[.int .i64 x.d, .int .u64 x.a, .int .i64 x.n, .int .u64 x.v]
theorem only_cell {S : Nat → Prop} {w w' : World} (k : Only S w w') {b o : Nat} (hn : ¬ S b) {v : Value} (h : w.cell? ⟨b, o, none⟩ = some v) : w'.cell? ⟨b, o, none⟩ = some v :=
  (World.cell?_of_block (k.block b (block_lt h) hn)).trans h
structure BoxA (w w1 : World) (x : ActV) : Prop where
  bel : Below w.heap.size w w1
  lt : w.heap.size < w1.heap.size
  g0 : w1.cell? ⟨w.heap.size, 0, none⟩ = some (.int .i64 x.d)
  g1 : w1.cell? ⟨w.heap.size, 1, none⟩ = some (.int .u64 x.a)
  g2 : w1.cell? ⟨w.heap.size, 2, none⟩ = some (.int .i64 x.n)
  g3 : w1.cell? ⟨w.heap.size, 3, none⟩ = some (.int .u64 x.v)
theorem boxed (w : World) (x : ActV) : BoxA w (w.alloc (.cells #[.int .i64 x.d, .int .u64 x.a, .int .i64 x.n, .int .u64 x.v] 40)) x := by
  have H0 := heap_alloc_new w (.cells #[.int .i64 x.d, .int .u64 x.a, .int .i64 x.n, .int .u64 x.v] 40)
  refine ⟨below_alloc w _, by rw [World.size_alloc]; omega, ?_, ?_, ?_, ?_⟩ <;> (rw [cell_of_row _ _ _ _ _ _ H0]; rfl)

def both06 : Nat := 21

set_option maxRecDepth 100000 in
set_option maxHeartbeats 4000000 in
theorem both_write (w : World) (a c : Nat) (Fa Fc T : Nat → Prop) (t : US) (x : ActV) (h : Duo w a c Fa Fc T t) (r1 : In64 x.a) (r3 : In64 x.v) (hdo : x.d = 0) :
    Calls Tryd.prog 21 #[.pointer (some ⟨a, 0, none⟩), .pointer (some ⟨c, 0, none⟩), actVal x] w (BothEnd w a c T (wrT t (x.v % 256) (plK t x.a x.n))) := by
  have HX := Lib.hid (boxed w x)
  have H := Lib.hid h
  have R1 := Lib.hid r1
  have R3 := Lib.hid r3
  obtain ⟨xd, xa, xn, xv⟩ := x
  unfold actVal
  simp only at HX R1 R3 hdo ⊢
  clear h r1 r3
  subst hdo
  go_enter Tryd.func21, Tryd.ntmps21
  go_wp2_with fail
  generalize w.alloc (.cells #[.int .i64 0, .int .u64 xa, .int .i64 xn, .int .u64 xv] 40) = w1 at *
  obtain ⟨bx, hbx⟩ : ∃ bx, w.heap.size = bx := ⟨_, rfl⟩
  (with_reducible refine (write_any w1 a Fa t (H.out.pa.below HX.out.bel) (H.out.tab.below HX.out.bel) H.out.na xa xn xv R1.out R3.out).mono ?_)
  rintro e w2 ⟨rfl, k1⟩
  have HK1 := Lib.hid k1
  have hnb : ¬ Fa w.heap.size := fun hi => by have := H.out.pa.lt _ hi; omega
  have g1 := only_cell k1.only hnb HX.out.g1
  have g2 := only_cell k1.only hnb HX.out.g2
  have g3 := only_cell k1.only hnb HX.out.g3
  rw [hbx] at g1 g2 g3 ⊢
  clear k1 hnb
  go_wp2_with fail
  (with_reducible refine (refWrite_any w2 c Fc t ((H.out.rc.below HX.out.bel).keeps HK1.out.only H.out.ca) xa xn xv R1.out R3.out).mono ?_)
  rintro e w3 ⟨rfl, k2⟩
  have HE := Lib.hid (DuoEnd.both H.out HX.out.bel HK1.out k2)
  clear k2 g1 g2 g3 HK1 HX
  generalize wrT t (xv % 256) (plK t xa xn) = t2 at *
  generalize okK (plK t xa xn) = r at *
  go_wp2
  go_ret
  exact ⟨by simp, HE.out⟩

set_option maxRecDepth 100000 in
set_option maxHeartbeats 4000000 in
theorem both_read (w : World) (a c : Nat) (Fa Fc T : Nat → Prop) (t : US) (x : ActV) (h : Duo w a c Fa Fc T t) (r1 : In64 x.a) (r3 : In64 x.v) (hdo : x.d = 1) :
    Calls Tryd.prog 21 #[.pointer (some ⟨a, 0, none⟩), .pointer (some ⟨c, 0, none⟩), actVal x] w (BothEnd w a c T (rdT t (plK t x.a x.n))) := by
  have HX := Lib.hid (boxed w x)
  have H := Lib.hid h
  have R1 := Lib.hid r1
  have R3 := Lib.hid r3
  obtain ⟨xd, xa, xn, xv⟩ := x
  unfold actVal
  simp only at HX R1 R3 hdo ⊢
  clear h r1 r3
  subst hdo
  go_enter Tryd.func21, Tryd.ntmps21
  go_wp2_with fail
  generalize w.alloc (.cells #[.int .i64 1, .int .u64 xa, .int .i64 xn, .int .u64 xv] 40) = w1 at *
  obtain ⟨bx, hbx⟩ : ∃ bx, w.heap.size = bx := ⟨_, rfl⟩
  (with_reducible refine (read_any w1 a Fa t (H.out.pa.below HX.out.bel) xa xn R1.out).mono ?_)
  rintro e w2 ⟨rfl, k1⟩
  have HK1 := Lib.hid k1
  have hnb : ¬ Fa w.heap.size := fun hi => by have := H.out.pa.lt _ hi; omega
  have g1 := only_cell k1.only hnb HX.out.g1
  have g2 := only_cell k1.only hnb HX.out.g2
  rw [hbx] at g1 g2 ⊢
  clear k1 hnb
  go_wp2_with fail
  (with_reducible refine (refRead_any w2 c Fc t ((H.out.rc.below HX.out.bel).keeps HK1.out.only H.out.ca) xa xn R1.out).mono ?_)
  rintro e w3 ⟨rfl, k2⟩
  have HE := Lib.hid (DuoEnd.both H.out HX.out.bel HK1.out k2)
  clear k2 g1 g2 HK1 HX
  generalize rdT t (plK t xa xn) = t2 at *
  generalize okK (plK t xa xn) = r at *
  generalize rdX t (plK t xa xn) = X at *
  go_wp2
  go_ret
  exact ⟨by simp, HE.out⟩

set_option maxRecDepth 100000 in
set_option maxHeartbeats 4000000 in
theorem both_feed (w : World) (a c : Nat) (Fa Fc T : Nat → Prop) (t : US) (x : ActV) (h : Duo w a c Fa Fc T t) (r1 : In64 x.a) (r3 : In64 x.v) (hdo : x.d = 2) :
    Calls Tryd.prog 21 #[.pointer (some ⟨a, 0, none⟩), .pointer (some ⟨c, 0, none⟩), actVal x] w (BothEnd w a c T (feedT t (x.v % 256))) := by
  have HX := Lib.hid (boxed w x)
  have H := Lib.hid h
  have hw := wrap8 x.v r3.1
  have HB : Hid (0 ≤ x.v % 256 ∧ x.v % 256 < 256) := Lib.hid (by omega)
  obtain ⟨xd, xa, xn, xv⟩ := x
  unfold actVal
  simp only at HX HB hdo hw ⊢
  clear h r1 r3
  generalize xv % 256 = y at *
  subst hdo
  obtain ⟨vi, vo, hp⟩ := H.out.pa
  go_enter Tryd.func21, Tryd.ntmps21
  have HP := Lib.hid hp
  clear hp
  go_wp2_with fail
  generalize w.alloc (.cells #[.int .i64 2, .int .u64 xa, .int .i64 xn, .int .u64 xv] 40) = w1 at *
  obtain ⟨bx, hbx⟩ : ∃ bx, w.heap.size = bx := ⟨_, rfl⟩
  (with_reducible refine (feed_any w1 a Fa t vi vo (HP.out.below HX.out.bel) y HB.out).mono ?_)
  rintro e w2 ⟨rfl, k1⟩
  have HK1 := Lib.hid k1
  have hnb : ¬ Fa w.heap.size := fun hi => by have := H.out.pa.lt _ hi; omega
  have g3 := only_cell k1.only hnb HX.out.g3
  rw [hbx] at g3 ⊢
  clear k1 hnb
  go_wp2_with fail
  (with_reducible refine (refFeed_any w2 c Fc t ((H.out.rc.below HX.out.bel).keeps HK1.out.only H.out.ca) y HB.out).mono ?_)
  rintro e w3 ⟨rfl, k2⟩
  have HE := Lib.hid (DuoEnd.both H.out HX.out.bel HK1.out k2)
  clear k2 g3 HK1 HX
  generalize feedT t y = t2 at *
  generalize feedK t = r at *
  go_wp2
  go_ret
  exact ⟨by simp, HE.out⟩

end Go.Proofs.YtcbjfkbmbjmnbaaDoor
