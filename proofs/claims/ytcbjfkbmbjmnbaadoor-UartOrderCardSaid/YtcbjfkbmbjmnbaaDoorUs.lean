/- Layer 6's laws: a uart of the law's own; contracts by literal states; awake. -/
import Derived.Test.YtcbjfkbmbjmnbaaDoorUr
import Derived.Test.YtcbjfkbmbjmnbaaDoorUm
namespace Go.Proofs.YtcbjfkbmbjmnbaaDoor
open Go.RowKit
set_option linter.unusedVariables false

/-- A uart of the law's own: its blocks are new since the law began. -/
structure OwnU (w0 w : World) (b : Nat) (F : Nat → Prop) (t : US) : Prop where
  tab0 : Tab w0
  bel : Below w0.heap.size w0 w
  new : ∀ i, F i → w0.heap.size ≤ i
  obj : UP w b F t
section
variable {w0 w w' : World} {b : Nat} {F : Nat → Prop} {t t' : US}
theorem OwnU.tab (h : OwnU w0 w b F t) : Tab w := h.tab0.below h.bel
theorem OwnU.nt (h : OwnU w0 w b F t) : ¬ F 0 := fun hi => by have := h.new _ hi; have := h.tab0.lt; omega
theorem OwnU.below (h : OwnU w0 w b F t) (o : Below w.heap.size w w') : OwnU w0 w' b F t := { h with bel := h.bel.trans (o.mono h.bel.size), obj := h.obj.below o }
theorem OwnU.turn (h : OwnU w0 w b F t) (k : EndU cellsP 52 w b F t' w') : ∃ F', OwnU w0 w' b F' t' := by
  obtain ⟨o, F', hF, vi, vo, hh⟩ := k
  refine ⟨F', h.tab0, Below.thenOnly h.bel o h.new h.bel.size, fun i hi => ?_, vi, vo, hh⟩
  rcases hF i hi with h1 | h1
  · exact h.new i h1
  · exact Nat.le_trans h.bel.size h1
end
/-- What a call tells and leaves of a uart of the law's own. -/
def OwnE (w0 : World) (b : Nat) (t' : US) (x : Value) (e : Ending) (w' : World) : Prop := e = .returned x ∧ ∃ F', OwnU w0 w' b F' t'
theorem ownNew (w0 w : World) (h0 : Tab w0) (hb : Below w0.heap.size w0 w) : Calls Tryd.prog 9 #[] w fun e w' => ∃ b, OwnE w0 b u0 (.pointer (some ⟨b, 0, none⟩)) e w' :=
  (new_any w).mono fun e w' ⟨b, F, vi, vo, he, k, hn, h⟩ => ⟨b, he, F, h0, hb.trans (k.mono hb.size), fun i hi => Nat.le_trans hb.size (hn i hi), vi, vo, h⟩
theorem ownWrite (w0 w : World) (b : Nat) (F : Nat → Prop) (t t' : US) (h : OwnU w0 w b F t) (off n v : Int) (r : Bool) (ho : In64 off) (hv : In64 v) (ht : wrT t (v % 256) (plK t off n) = t') (hr : okK (plK t off n) = r) :
    Calls Tryd.prog 12 #[.pointer (some ⟨b, 0, none⟩), .int .u64 off, .int .i64 n, .int .u64 v] w (OwnE w0 b t' (.bool r)) := by
  subst ht hr
  exact (write_any w b F t h.obj h.tab h.nt off n v ho hv).mono fun e w' ⟨he, k⟩ => ⟨he, h.turn k⟩
theorem ownRead (w0 w : World) (b : Nat) (F : Nat → Prop) (t t' : US) (h : OwnU w0 w b F t) (off n X : Int) (r : Bool) (ho : In64 off) (ht : rdT t (plK t off n) = t') (hX : rdX t (plK t off n) = X) (hr : okK (plK t off n) = r) :
    Calls Tryd.prog 16 #[.pointer (some ⟨b, 0, none⟩), .int .u64 off, .int .i64 n] w (OwnE w0 b t' (.tuple #[.int .u64 X, .bool r])) := by
  subst ht hr hX
  exact (read_any w b F t h.obj off n ho).mono fun e w' ⟨he, k⟩ => ⟨he, h.turn k⟩
theorem ownFeed (w0 w : World) (b : Nat) (F : Nat → Prop) (t t' : US) (h : OwnU w0 w b F t) (x : Int) (r : Bool) (hx : 0 ≤ x ∧ x < 256) (ht : feedT t x = t') (hr : feedK t = r) :
    Calls Tryd.prog 10 #[.pointer (some ⟨b, 0, none⟩), .int .u8 x] w (OwnE w0 b t' (.bool r)) := by
  subst ht hr
  obtain ⟨vi, vo, hp⟩ := h.obj
  exact (feed_any w b F t vi vo hp x hx).mono fun e w' ⟨he, k⟩ => ⟨he, h.turn k⟩
theorem ownWaiting (w0 w : World) (b : Nat) (F : Nat → Prop) (t : US) (h : OwnU w0 w b F t) (n : Int) (hn : (t.inn.length : Int) = n) :
    Calls Tryd.prog 15 #[.pointer (some ⟨b, 0, none⟩)] w fun e w' => e = .returned (.int .i64 n) ∧ w = w' := by
  subst hn
  obtain ⟨vi, vo, hp⟩ := h.obj
  exact waiting_any w b F t vi vo hp
theorem ownLine (w0 w : World) (b : Nat) (F : Nat → Prop) (t : US) (h : OwnU w0 w b F t) (r : Bool) (hn : lineU t = r) :
    Calls Tryd.prog 11 #[.pointer (some ⟨b, 0, none⟩)] w fun e w' => e = .returned (.bool r) ∧ w = w' := by
  subst hn
  obtain ⟨vi, vo, hp⟩ := h.obj
  exact line_any w b F t vi vo hp
/-- What Out tells of a uart of the law's own: bytes as a string. -/
def OwnS (w0 : World) (b : Nat) (t : US) (s : ByteArray) (e : Ending) (w' : World) : Prop := ∃ a n c F, e = .returned (.slice a n c) ∧ (convert 28 9 (.slice a n c)).run Tryd.prog w' = .ok (.string s) w' ∧ n = t.out.length ∧ OwnU w0 w' b F t
theorem ownOut (w0 w : World) (b : Nat) (F : Nat → Prop) (t : US) (h : OwnU w0 w b F t) (s : ByteArray) (hs : strOfNums t.out = s) :
    Calls Tryd.prog 14 #[.pointer (some ⟨b, 0, none⟩)] w (OwnS w0 b t s) := by
  subst hs
  have hl := h.obj.ok.lo
  exact (out_any w b F t h.obj).mono fun e w' ⟨a, c, he, k, hr, _⟩ => ⟨a, _, c, F, he, conv_row hr (by omega), rfl, h.below k⟩

theorem in64_of {x : Int} (h : 0 ≤ x ∧ x < 18446744073709551616 := by decide) : In64 x := h

set_option maxRecDepth 100000 in
set_option maxHeartbeats 2000000 in
theorem awake_any (w : World) (h0 : Tab w) : Calls Tryd.prog 17 #[] w fun e w' => e = .returned (.bool true) ∧ Below w.heap.size w w' := by
  have H0 := Lib.hid h0
  clear h0
  go_enter Tryd.func17, Tryd.ntmps17
  go_wp2_with fail
  refine (ownNew w w H0.out (Below.refl _ _)).mono ?_
  rintro e w1 ⟨b, rfl, F, ho⟩
  have HO := Lib.hid ho
  clear ho
  go_wp2_with fail
  refine (ownFeed w w1 b F _ ⟨[65], [], 0, 0, 0, 0, 0, 0, 0, false, false⟩ HO.out _ true (by decide) (by rfl) (by decide)).mono ?_
  rintro e w2 ⟨rfl, F, ho⟩
  replace HO := Lib.hid ho
  clear ho
  go_wp2_with fail
  refine (ownWrite w w2 b F _ ⟨[65], [107], 0, 0, 0, 0, 0, 0, 0, false, true⟩ HO.out _ _ _ true in64_of in64_of (by rfl) (by decide)).mono ?_
  rintro e w3 ⟨rfl, F, ho⟩
  replace HO := Lib.hid ho
  clear ho
  go_wp2_with fail
  refine (ownWaiting w w3 b F _ HO.out 1 (by rfl)).mono ?_
  rintro e w' ⟨rfl, rfl⟩
  go_wp2_with fail
  refine (ownRead w w3 b F _ ⟨[], [107], 0, 0, 0, 0, 0, 0, 0, false, true⟩ HO.out _ _ 65 true in64_of (by rfl) (by rfl) (by decide)).mono ?_
  rintro e w4 ⟨rfl, F, ho⟩
  replace HO := Lib.hid ho
  clear ho
  go_wp2_with fail
  refine (ownOut w w4 b F _ HO.out ⟨#[107]⟩ (by rfl)).mono ?_
  rintro e w5 ⟨a, n, c, F, rfl, hc, hn, ho⟩
  replace HO := Lib.hid ho
  clear ho hn
  go_wp2
  go_ret
  exact ⟨rfl, HO.out.bel⟩

end Go.Proofs.YtcbjfkbmbjmnbaaDoor
