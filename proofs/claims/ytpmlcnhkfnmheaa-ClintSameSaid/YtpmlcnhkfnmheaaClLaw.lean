/- Layer 4's laws: a clint that the law made itself; awake. -/
import Derived.Test.YtpmlcnhkfnmheaaClProg
namespace Go.Proofs.Ytpmlcnhkfnmheaa
open Go.RowKit
set_option linter.unusedVariables false

/-- A clint of the law's own: its block is new since the law began. -/
def OwnP (w0 w : World) (b : Nat) (t : Cl) : Prop := Below w0.heap.size w0 w ∧ w0.heap.size ≤ b ∧ ProgC w b t
theorem OwnP.below {w0 w w' : World} {b : Nat} {t : Cl} (h : OwnP w0 w b t) (k : Below w.heap.size w w') : OwnP w0 w' b t := ⟨h.1.trans (k.mono h.1.size), h.2.1, h.2.2.below k⟩
theorem OwnP.turn {w0 w w' : World} {b : Nat} {t t' : Cl} (h : OwnP w0 w b t) (k : Only (fun i => i = b) w w') (hp : ProgC w' b t') : OwnP w0 w' b t' :=
  ⟨Below.thenOnly h.1 k (fun i hi => hi ▸ h.2.1) h.1.size, h.2.1, hp⟩
/-- Behind a turn of another object. -/
theorem OwnP.aside {w0 w w' : World} {b : Nat} {t : Cl} {S : Nat → Prop} (h : OwnP w0 w b t) (k : Only S w w') (hS : ∀ i, S i → w0.heap.size ≤ i) (hb : ¬ S b) : OwnP w0 w' b t :=
  ⟨Below.thenOnly h.1 k hS h.1.size, h.2.1, h.2.2.keeps k hb⟩
theorem OwnP.cells {w0 w : World} {b : Nat} {t : Cl} (h : OwnP w0 w b t) : w.cell? ⟨b, 0, none⟩ = some (.bool t.s) ∧ w.cell? ⟨b, 1, none⟩ = some (.int .u64 t.c) ∧ w.cell? ⟨b, 2, none⟩ = some (.int .u64 t.n) := h.2.2.cells
theorem OwnP.prog {w0 w : World} {b : Nat} {t : Cl} (h : OwnP w0 w b t) : ProgC w b t := h.2.2
theorem OwnP.okay {w0 w : World} {b : Nat} {t : Cl} (h : OwnP w0 w b t) : t.ok := h.2.2.2
theorem OwnP.made {w0 w : World} {t : Cl} (h : Below w0.heap.size w0 w) (ok : t.ok) : OwnP w0 (w.alloc (.cells #[.bool t.s, .int .u64 t.c, .int .u64 t.n] 26)) w.heap.size t :=
  ⟨h.alloc h.size _, h.size, heap_alloc_new w _, ok⟩
theorem mtip_is (w : World) (s : Bool) (c n : Int) (r : Bool) (h : mtC ⟨s, c, n⟩ = r) : Calls Try.prog 10 #[.agg #[.int .u64 c, .int .u64 n]] w fun e w' => e = .returned (.bool r) ∧ Below w.heap.size w w' := by
  subst h; exact mtip_any w ⟨s, c, n⟩
theorem msip_is (w : World) (s : Bool) (c n : Int) : Calls Try.prog 11 #[.agg #[.bool s, .int .u64 c, .int .u64 n]] w fun e w' => e = .returned (.bool s) ∧ Below w.heap.size w w' := msip_any w ⟨s, c, n⟩
theorem time_is (w : World) (c n : Int) : Calls Try.prog 15 #[.agg #[.int .u64 c, .int .u64 n]] w fun e w' => e = .returned (.int .u64 n) ∧ Below w.heap.size w w' := time_any w ⟨false, c, n⟩
theorem new_is (w : World) : Calls Try.prog 8 #[] w fun e w' => e = .returned (.agg #[.bool false, .int .u64 18446744073709551615, .int .u64 0]) ∧ Below w.heap.size w w' := new_any w
theorem read_is (w : World) (s : Bool) (c m off n X : Int) (r : Bool) (hok : (⟨s, c, m⟩ : Cl).ok) (ho : In64 off) (hX : rdC ⟨s, c, m⟩ (kindC off n) = X) (hr : okC off n = r) :
    Calls Try.prog 9 #[.agg #[.bool s, .int .u64 c, .int .u64 m], .int .u64 off, .int .i64 n] w fun e w' => e = .returned (.tuple #[.int .u64 X, .bool r]) ∧ Below w.heap.size w w' := by
  subst hX hr; exact read_any w ⟨s, c, m⟩ hok off n ho
theorem write_is (w : World) (b : Nat) (t t' : Cl) (off n v : Int) (r : Bool) (h : ProgC w b t) (ho : In64 off) (hv : In64 v) (ht : wrC t v (kindC off n) = t') (hr : okC off n = r) :
    Calls Try.prog 12 #[.pointer (some ⟨b, 0, none⟩), .int .u64 off, .int .i64 n, .int .u64 v] w (WriteC w b r t') := by
  subst ht hr; exact write_any w b t h off n v ho hv
theorem tick_is (w : World) (b : Nat) (t t' : Cl) (n : Int) (h : ProgC w b t) (hn : In64 n) (ht : tickC t n = t') :
    Calls Try.prog 13 #[.pointer (some ⟨b, 0, none⟩), .int .u64 n] w (SetEndC w b t') := by
  subst ht; exact tick_any w b t h n hn

set_option maxHeartbeats 1000000 in
theorem awake_any (w : World) : Calls Try.prog 14 #[] w fun e w' => e = .returned (.bool true) ∧ Below w.heap.size w w' := by
  go_enter Try.func14, Try.ntmps14
  go_wp2_with fail
  refine (new_is _).mono ?_
  rintro e w1 ⟨rfl, hb⟩
  have HO := Lib.hid (OwnP.made (t := ⟨false, 18446744073709551615, 0⟩) hb (by unfold Cl.ok In64; decide))
  clear hb
  go_wp2_with fail
  try simp only at HO
  generalize hbb : w1.heap.size = b at *
  clear hbb
  generalize w1.alloc (.cells #[.bool false, .int .u64 18446744073709551615, .int .u64 0] 26) = w2 at *
  obtain ⟨c0, c1, c2⟩ := HO.out.cells
  go_wp2_with fail
  refine (mtip_is _ false _ _ false (by decide)).mono ?_
  rintro e w3 ⟨rfl, hb⟩
  replace HO := Lib.hid (HO.out.below hb)
  clear c0 c1 c2 hb
  obtain ⟨c0, c1, c2⟩ := HO.out.cells
  go_wp2_with fail
  refine (write_is _ b _ ⟨false, 5, 0⟩ _ _ _ true HO.out.2.2 (by unfold In64; decide) (by unfold In64; decide) (by rfl) (by decide)).mono ?_
  rintro e w4 ⟨rfl, ho, hp⟩
  replace HO := Lib.hid (HO.out.turn ho hp)
  clear c0 c1 c2 ho hp
  obtain ⟨c0, c1, c2⟩ := HO.out.cells
  go_wp2_with fail
  refine (mtip_is _ false _ _ false (by decide)).mono ?_
  rintro e w5 ⟨rfl, hb⟩
  replace HO := Lib.hid (HO.out.below hb)
  clear c0 c1 c2 hb
  obtain ⟨c0, c1, c2⟩ := HO.out.cells
  go_wp2_with fail
  refine (tick_is _ b _ ⟨false, 5, 5⟩ _ HO.out.2.2 (by unfold In64; decide) (by rfl)).mono ?_
  rintro e w6 ⟨hu, ho, hp⟩
  obtain ⟨u, rfl⟩ := hu
  replace HO := Lib.hid (HO.out.turn ho hp)
  clear c0 c1 c2 ho hp
  obtain ⟨c0, c1, c2⟩ := HO.out.cells
  go_wp2_with fail
  refine (mtip_is _ false _ _ true (by decide)).mono ?_
  rintro e w7 ⟨rfl, hb⟩
  replace HO := Lib.hid (HO.out.below hb)
  clear c0 c1 c2 hb
  obtain ⟨c0, c1, c2⟩ := HO.out.cells
  go_wp2_with fail
  refine (time_is _ _ _).mono ?_
  rintro e w8 ⟨rfl, hb⟩
  replace HO := Lib.hid (HO.out.below hb)
  clear c0 c1 c2 hb
  obtain ⟨c0, c1, c2⟩ := HO.out.cells
  go_wp2_with fail
  refine (msip_is _ _ _ _).mono ?_
  rintro e w9 ⟨rfl, hb⟩
  replace HO := Lib.hid (HO.out.below hb)
  clear c0 c1 c2 hb
  obtain ⟨c0, c1, c2⟩ := HO.out.cells
  go_wp2
  go_ret
  exact ⟨rfl, HO.out.1⟩

end Go.Proofs.Ytpmlcnhkfnmheaa
