/- Joined: BuW PlEq7 Uq BuX BuO BuP LawBusPlays PlTab UaTab BuTab -/
import Derived.Test.YtbcnkhfpogglmaaGreatDoorKP6
import Derived.Laws.StructEq
import Derived.Test.YtbcnkhfpogglmaaGreatDoorRows
import Derived.ProofKit
import Derived.LaidMore
import Derived.OpenShut
import Derived.Stop.Joined
import Derived.MakeChecks
namespace Go.Proofs.YtbcnkhfpogglmaaGreatDoor
open Go.RowKit
set_option linter.unusedVariables false
set_option maxRecDepth 100000

/-- The act's box. -/
def BoxA (w : World) (q : Nat) (x : ActV) : Prop := w.heap[q]? = some (.cells #[.int .i64 x.d, .int .u64 x.a, .int .i64 x.n, .int .u64 x.v, .int .i64 x.i] 50 (0, 0))
theorem BoxA.cells {w : World} {q : Nat} {x : ActV} (h : BoxA w q x) : w.cell? ⟨q, 0, none⟩ = some (.int .i64 x.d) ∧ w.cell? ⟨q, 1, none⟩ = some (.int .u64 x.a) ∧ w.cell? ⟨q, 2, none⟩ = some (.int .i64 x.n) ∧ w.cell? ⟨q, 3, none⟩ = some (.int .u64 x.v) ∧ w.cell? ⟨q, 4, none⟩ = some (.int .i64 x.i) := by
  refine ⟨?_, ?_, ?_, ?_, ?_⟩ <;> (rw [cell_of_row w q _ _ _ _ h]; rfl)
theorem BoxA.lt {w : World} {q : Nat} {x : ActV} (h : BoxA w q x) : q < w.heap.size := (Array.getElem?_eq_some_iff.1 h).1
theorem BoxA.keeps {w w' : World} {q : Nat} {x : ActV} {S : Nat → Prop} (h : BoxA w q x) (o : Only S w w') (hq : ¬ S q) : BoxA w' q x := Only.keeps o hq h
theorem BoxA.below {w w' : World} {q : Nat} {x : ActV} (h : BoxA w q x) (o : Below w.heap.size w w') : BoxA w' q x := (o.block q h.lt).trans h
abbrev actV (x : ActV) : Value := .agg #[.int .i64 x.d, .int .u64 x.a, .int .i64 x.n, .int .u64 x.v, .int .i64 x.i]
/-- In the midst of an act: both, apart, and the act's box. -/
structure Bx (w0 w : World) (F0 F : Nat → Prop) (x : ActV) (q b d : Nat) (N : Nat) (st su : BS) : Prop where
  new : NewF w0 w F0 F
  two : Two w F b d N st su
  box : BoxA w q x
  far : ¬ F q
theorem Bx.start {w : World} {F : Nat → Prop} {b d N : Nat} {st su : BS} (h : Two w F b d N st su) (x : ActV) : Bx w (w.alloc (.cells #[.int .i64 x.d, .int .u64 x.a, .int .i64 x.n, .int .u64 x.v, .int .i64 x.i] 50)) F F x w.heap.size b d N st su :=
  ⟨NewF.same F ((Below.refl _ _).alloc (Nat.le_refl _) _), h.below ((Below.refl _ _).alloc (Nat.le_refl _) _), heap_alloc_new w _, fun hf => by have := h.lt _ hf; omega⟩
theorem Bx.tell {w0 w w' : World} {F0 F : Nat → Prop} {x : ActV} {q b d N N' : Nat} {st su st' su' : BS} {r : Value} {e : Ending} (h : Bx w0 w F0 F x q b d N st su) (k : TellT w F b d N' r st' su' e w') : e = .returned r ∧ ∃ F', Bx w0 w' F0 F' x q b d N' st' su' := by
  obtain ⟨he, F', hn, ht⟩ := k
  refine ⟨he, F', h.new.trans hn, ht, hn.1.keeps h.far h.box, fun hq => ?_⟩
  rcases hn.2 q hq with a | a
  · exact h.far a
  · have := h.box.lt; omega
theorem Bx.below {w0 w w' : World} {F0 F : Nat → Prop} {x : ActV} {q b d N : Nat} {st su : BS} (h : Bx w0 w F0 F x q b d N st su) (o : Below w.heap.size w w') : Bx w0 w' F0 F x q b d N st su :=
  ⟨h.new.trans (NewF.same F o), h.two.below o, (o.block q h.box.lt).trans h.box, h.far⟩
/-- What an act leaves of both. -/
def BothE (w : World) (F : Nat → Prop) (b d N : Nat) (e : Ending) (w' : World) : Prop := e = .returned (.bool true) ∧ ∃ F' st', NewF w w' F F' ∧ Two w' F' b d (N + 8) st' st'
theorem Bx.done {w0 w : World} {F0 F : Nat → Prop} {x : ActV} {q b d N N' : Nat} {st : BS} (h : Bx w0 w F0 F x q b d N' st st) (hN : N' ≤ N + 8) {r : Value} (hr : r = .bool true) : BothE w0 F0 b d N (.returned r) w := by
  subst hr; exact ⟨rfl, F, st, h.new, h.two.more hN⟩
theorem u8_mod (v : Int) : 0 ≤ v % 256 ∧ v % 256 < 256 := ⟨by omega, by omega⟩
theorem beq_self_b (r : Bool) : (r == r) = true := by cases r <;> rfl
theorem beq_self_z (r : Int) : (r == r) = true := by simp
theorem out_len {w : World} {F : Nat → Prop} {b d N : Nat} {st su : BS} (h : Two w F b d N st su) (i : Int) : (busOt st.us i).length ≤ 70000 := by
  obtain ⟨g, K, vp, ul, h, L, vq, um, P, R, ap, tb, cov, lt⟩ := h
  unfold busOt
  by_cases c : isU st.us.length i = true
  · rw [if_pos c]
    have hi := isU_nat c
    obtain ⟨k, rfl, hk⟩ := hi
    obtain ⟨vi, vo, hh⟩ := P.uart k (by rw [← P.len]; exact hk)
    have := hh.ok.lo
    simp only [Int.toNat_natCast]
    omega
  · rw [if_neg c]; exact Nat.zero_le _

def NoneE (w : World) (e : Ending) (w' : World) : Prop := e = .returned (.bool true) ∧ Below w.heap.size w w'
theorem write_none_bel (a n v : Int) (w : World) : Calls Tryz.prog 9 #[.pointer none, .int .u64 a, .int .i64 n, .int .u64 v] w fun e w' => e = .returned (.bool false) ∧ Below w.heap.size w w' :=
  (write_none_bus a n v w).mono fun e w' ⟨he, k, hk⟩ => ⟨he, by subst hk; exact ⟨rfl, rfl, rfl, Nat.le_refl _, fun _ _ => rfl⟩⟩
section
variable {w : World} {F : Nat → Prop} {b d N : Nat} {st : BS}
set_option maxHeartbeats 4000000 in
theorem both_0 (H : Two w F b d N st st) (hN : N < 900000) (x : ActV) (ha : In64 x.a) (hn : In63 x.n) (hv : In64 x.v) (hi : In63 x.i) (hd : x.d = 0) : Calls Tryz.prog 21 #[.pointer (some ⟨b, 0, none⟩), .pointer (some ⟨d, 0, none⟩), actV x] w (BothE w F b d N) := by
  obtain ⟨xd, xa, xn, xv, xi⟩ := x
  simp only at ha hn hv hi hd
  subst hd
  have HB := Lib.hid (Bx.start H ⟨0, xa, xn, xv, xi⟩)
  clear H
  go_enter Tryz.func21, Tryz.ntmps21
  go_upto_region 1 with (fail)
  generalize w.alloc (.cells #[.int .i64 0, .int .u64 xa, .int .i64 xn, .int .u64 xv, .int .i64 xi] 50) = w0 at *
  generalize w.heap.size = q at *
  obtain ⟨c0, c1, c2, c3, c4⟩ := HB.out.box.cells
  have HV := Lib.hid hv
  have HA := Lib.hid ha
  have HI := Lib.hid hi
  have HN := Lib.hid hn
  clear hv ha hi hn
  go_wp2_with (fail)
  (with_reducible refine (tWrite HB.out.two xa xn xv HA.out HV.out).mono ?_)
  rintro e w1 k
  obtain ⟨rfl, F1, hb1⟩ := HB.out.tell k
  clear k c0 c1 c2 c3 c4
  obtain ⟨c0, c1, c2, c3, c4⟩ := hb1.box.cells
  have HB1 := Lib.hid hb1
  clear hb1
  go_wp2_with (fail)
  (with_reducible refine (rWrite HB1.out.two xa xn xv HA.out HV.out hN).mono ?_)
  rintro e w2 k
  obtain ⟨rfl, F2, hb2⟩ := HB1.out.tell k
  clear k c0 c1 c2 c3 c4
  have HB2 := Lib.hid hb2
  clear hb2
  go_wp2
  go_ret
  exact HB2.out.done (by omega) (by first | rfl | (show Value.bool _ = _; rw [beq_self_b]))

set_option maxHeartbeats 4000000 in
theorem both_1 (H : Two w F b d N st st) (hN : N < 900000) (x : ActV) (ha : In64 x.a) (hn : In63 x.n) (hv : In64 x.v) (hi : In63 x.i) (hd : x.d = 1) : Calls Tryz.prog 21 #[.pointer (some ⟨b, 0, none⟩), .pointer (some ⟨d, 0, none⟩), actV x] w (BothE w F b d N) := by
  obtain ⟨xd, xa, xn, xv, xi⟩ := x
  simp only at ha hn hv hi hd
  subst hd
  have HB := Lib.hid (Bx.start H ⟨1, xa, xn, xv, xi⟩)
  clear H
  go_enter Tryz.func21, Tryz.ntmps21
  go_upto_region 1 with (fail)
  generalize w.alloc (.cells #[.int .i64 1, .int .u64 xa, .int .i64 xn, .int .u64 xv, .int .i64 xi] 50) = w0 at *
  generalize w.heap.size = q at *
  obtain ⟨c0, c1, c2, c3, c4⟩ := HB.out.box.cells
  have HV := Lib.hid hv
  have HA := Lib.hid ha
  have HI := Lib.hid hi
  have HN := Lib.hid hn
  clear hv ha hi hn
  go_wp2_with (fail)
  (with_reducible refine (tRead HB.out.two xa xn HA.out).mono ?_)
  rintro e w1 k
  obtain ⟨rfl, F1, hb1⟩ := HB.out.tell k
  clear k c0 c1 c2 c3 c4
  obtain ⟨c0, c1, c2, c3, c4⟩ := hb1.box.cells
  have HB1 := Lib.hid hb1
  clear hb1
  have b1 := beq_self_z (busRd st xa xn).1
  have b2 := beq_self_b (busRd st xa xn).2.1
  have HRR := Lib.hid (rRead HB1.out.two xa xn HA.out)
  generalize (busRd st xa xn).1 = y at *
  generalize (busRd st xa xn).2.1 = z at *
  go_wp2_with (fail)
  (with_reducible refine HRR.out.mono ?_)
  rintro e w2 k
  obtain ⟨rfl, F2, hb2⟩ := HB1.out.tell k
  clear k c0 c1 c2 c3 c4
  have HB2 := Lib.hid hb2
  clear hb2
  go_wp2
  go_ret
  exact HB2.out.done (by omega) (by first | rfl | (show Value.bool _ = _; rw [b2]))

set_option maxHeartbeats 4000000 in
theorem both_3 (H : Two w F b d N st st) (hN : N < 900000) (x : ActV) (ha : In64 x.a) (hn : In63 x.n) (hv : In64 x.v) (hi : In63 x.i) (hd : x.d = 3) : Calls Tryz.prog 21 #[.pointer (some ⟨b, 0, none⟩), .pointer (some ⟨d, 0, none⟩), actV x] w (BothE w F b d N) := by
  obtain ⟨xd, xa, xn, xv, xi⟩ := x
  simp only at ha hn hv hi hd
  subst hd
  have HB := Lib.hid (Bx.start H ⟨3, xa, xn, xv, xi⟩)
  clear H
  go_enter Tryz.func21, Tryz.ntmps21
  go_upto_region 1 with (fail)
  generalize w.alloc (.cells #[.int .i64 3, .int .u64 xa, .int .i64 xn, .int .u64 xv, .int .i64 xi] 50) = w0 at *
  generalize w.heap.size = q at *
  obtain ⟨c0, c1, c2, c3, c4⟩ := HB.out.box.cells
  have HV := Lib.hid hv
  have HA := Lib.hid ha
  have HI := Lib.hid hi
  have HN := Lib.hid hn
  clear hv ha hi hn
  have hv0 := HV.out.1
  go_wp2_with (fail)
  (with_reducible refine (tLevel HB.out.two xi _ HI.out).mono ?_)
  rintro e w1 k
  obtain ⟨rfl, F1, hb1⟩ := HB.out.tell k
  clear k c0 c1 c2 c3 c4
  obtain ⟨c0, c1, c2, c3, c4⟩ := hb1.box.cells
  have HB1 := Lib.hid hb1
  clear hb1
  go_wp2_with (fail)
  (with_reducible refine (rLevel HB1.out.two xi _).mono ?_)
  rintro e w2 k
  obtain ⟨rfl, F2, hb2⟩ := HB1.out.tell k
  clear k c0 c1 c2 c3 c4
  have HB2 := Lib.hid hb2
  clear hb2
  go_wp2
  go_ret
  exact HB2.out.done (by omega) (by first | rfl | (show Value.bool _ = _; rw [beq_self_b]))

set_option maxHeartbeats 4000000 in
theorem both_4 (H : Two w F b d N st st) (hN : N < 900000) (x : ActV) (ha : In64 x.a) (hn : In63 x.n) (hv : In64 x.v) (hi : In63 x.i) (hd : x.d = 4) : Calls Tryz.prog 21 #[.pointer (some ⟨b, 0, none⟩), .pointer (some ⟨d, 0, none⟩), actV x] w (BothE w F b d N) := by
  obtain ⟨xd, xa, xn, xv, xi⟩ := x
  simp only at ha hn hv hi hd
  subst hd
  have HB := Lib.hid (Bx.start H ⟨4, xa, xn, xv, xi⟩)
  clear H
  go_enter Tryz.func21, Tryz.ntmps21
  go_upto_region 1 with (fail)
  generalize w.alloc (.cells #[.int .i64 4, .int .u64 xa, .int .i64 xn, .int .u64 xv, .int .i64 xi] 50) = w0 at *
  generalize w.heap.size = q at *
  obtain ⟨c0, c1, c2, c3, c4⟩ := HB.out.box.cells
  have HV := Lib.hid hv
  have HA := Lib.hid ha
  have HI := Lib.hid hi
  have HN := Lib.hid hn
  clear hv ha hi hn
  go_wp2_with (fail)
  (with_reducible refine (tTick HB.out.two xv HV.out).mono ?_)
  rintro e w1 ⟨u1, k⟩
  obtain ⟨rfl, F1, hb1⟩ := HB.out.tell k
  clear k c0 c1 c2 c3 c4
  obtain ⟨c0, c1, c2, c3, c4⟩ := hb1.box.cells
  have HB1 := Lib.hid hb1
  clear hb1
  go_wp2_with (fail)
  (with_reducible refine (rTick HB1.out.two xv HV.out).mono ?_)
  rintro e w2 ⟨u2, k⟩
  obtain ⟨rfl, F2, hb2⟩ := HB1.out.tell k
  clear k c0 c1 c2 c3 c4
  have HB2 := Lib.hid hb2
  clear hb2
  go_wp2
  go_ret
  exact HB2.out.done (by omega) rfl

set_option maxHeartbeats 4000000 in
theorem both_6 (H : Two w F b d N st st) (hN : N < 900000) (x : ActV) (ha : In64 x.a) (hn : In63 x.n) (hv : In64 x.v) (hi : In63 x.i) (hd : x.d = 6) : Calls Tryz.prog 21 #[.pointer (some ⟨b, 0, none⟩), .pointer (some ⟨d, 0, none⟩), actV x] w (BothE w F b d N) := by
  obtain ⟨xd, xa, xn, xv, xi⟩ := x
  simp only at ha hn hv hi hd
  subst hd
  have HB := Lib.hid (Bx.start H ⟨6, xa, xn, xv, xi⟩)
  clear H
  go_enter Tryz.func21, Tryz.ntmps21
  go_upto_region 1 with (fail)
  generalize w.alloc (.cells #[.int .i64 6, .int .u64 xa, .int .i64 xn, .int .u64 xv, .int .i64 xi] 50) = w0 at *
  generalize w.heap.size = q at *
  obtain ⟨c0, c1, c2, c3, c4⟩ := HB.out.box.cells
  have HV := Lib.hid hv
  have HA := Lib.hid ha
  have HI := Lib.hid hi
  have HN := Lib.hid hn
  clear hv ha hi hn
  have HT : Hid (∀ wx, Below w0.heap.size w0 wx → Calls Tryz.prog 10 #[.pointer (some ⟨b, 0, none⟩), .int .u64 xa, .int .i64 xn] wx (IsRamE wx (M3.okN xn && M3.hasZ 2147483648 st.size xa xn))) := Lib.hid fun wx hx => tIsRam (HB.out.two.below hx) xa xn HA.out
  have HR : Hid (∀ wx, Below w0.heap.size w0 wx → Calls Tryz.prog 60 #[.pointer (some ⟨d, 0, none⟩), .int .u64 xa, .int .i64 xn] wx (IsRamE wx (M3.okN xn && M3.hasZ 2147483648 st.size xa xn))) := Lib.hid fun wx hx => rIsRam (HB.out.two.below hx) xa xn HA.out
  generalize (M3.okN xn && M3.hasZ 2147483648 st.size xa xn) = r at *
  have br := beq_self_b r
  go_wp2_with fail
  refine wp_region_held_drew (S := fun wx => Below w0.heap.size w0 wx) (by kernel_rfl) ((Below.refl _ _).drew) (fun hHeld0 => ?_)
  have HS := Lib.hid hHeld0
  clear hHeld0
  refine takeD (i := 0) (some 128) (v := ?_) rfl rfl (by kernel_rfl) (by kernel_rfl) (by kernel_rfl) (fun _ _ _ h => h) (by rfl) HS.out ?_ ?_
  rotate_left
  · intro wx hSx
    clear hSx
    go_simp
    try (with_reducible rfl)
  simp only [Act.put, List.setIfInBounds_toArray, List.set_cons_zero, List.set_cons_succ]
  refine takeD (i := 1) (some 129) (v := ?_) rfl rfl (by kernel_rfl) (by kernel_rfl) (by kernel_rfl) (fun _ _ _ h => h) (by rfl) HS.out ?_ ?_
  rotate_left
  · intro wx hSx
    clear hSx
    go_simp
    try (with_reducible rfl)
  simp only [Act.put, List.setIfInBounds_toArray, List.set_cons_zero, List.set_cons_succ]
  refine takeD (i := 2) (some 130) (v := ?_) rfl rfl (by kernel_rfl) (by kernel_rfl) (by kernel_rfl) (fun _ _ _ h => h) (by rfl) HS.out ?_ ?_
  rotate_left
  · intro wx hSx
    obtain ⟨c0, c1, c2, c3, c4⟩ := (HB.out.below hSx).box.cells
    clear hSx
    go_simp
    try (with_reducible rfl)
  simp only [Act.put, List.setIfInBounds_toArray, List.set_cons_zero, List.set_cons_succ]
  refine takeD (i := 3) (some 131) (v := ?_) rfl rfl (by kernel_rfl) (by kernel_rfl) (by kernel_rfl) (fun _ _ _ h => h) (by rfl) HS.out ?_ ?_
  rotate_left
  · intro wx hSx
    clear hSx
    go_simp
    try (with_reducible rfl)
  simp only [Act.put, List.setIfInBounds_toArray, List.set_cons_zero, List.set_cons_succ]
  refine takeD (i := 4) (some 132) (v := ?_) rfl rfl (by kernel_rfl) (by kernel_rfl) (by kernel_rfl) (fun _ _ _ h => h) (by rfl) HS.out ?_ ?_
  rotate_left
  · intro wx hSx
    obtain ⟨c0, c1, c2, c3, c4⟩ := (HB.out.below hSx).box.cells
    clear hSx
    go_simp
    try (with_reducible rfl)
  simp only [Act.put, List.setIfInBounds_toArray, List.set_cons_zero, List.set_cons_succ]
  refine takeD (i := 6) (some 134) (v := ?_) rfl rfl (by kernel_rfl) (by kernel_rfl) (by kernel_rfl) (fun _ _ _ h => h) (by rfl) HS.out ?_ ?_
  rotate_left
  · intro wx hSx
    clear hSx
    go_simp
    try (with_reducible rfl)
  simp only [Act.put, List.setIfInBounds_toArray, List.set_cons_zero, List.set_cons_succ]
  refine takeD (i := 7) (some 135) (v := ?_) rfl rfl (by kernel_rfl) (by kernel_rfl) (by kernel_rfl) (fun _ _ _ h => h) (by rfl) HS.out ?_ ?_
  rotate_left
  · intro wx hSx
    clear hSx
    go_simp
    try (with_reducible rfl)
  simp only [Act.put, List.setIfInBounds_toArray, List.set_cons_zero, List.set_cons_succ]
  refine takeD (i := 8) (some 136) (v := ?_) rfl rfl (by kernel_rfl) (by kernel_rfl) (by kernel_rfl) (fun _ _ _ h => h) (by rfl) HS.out ?_ ?_
  rotate_left
  · intro wx hSx
    obtain ⟨c0, c1, c2, c3, c4⟩ := (HB.out.below hSx).box.cells
    clear hSx
    go_simp
    try (with_reducible rfl)
  simp only [Act.put, List.setIfInBounds_toArray, List.set_cons_zero, List.set_cons_succ]
  refine takeD (i := 9) (some 137) (v := ?_) rfl rfl (by kernel_rfl) (by kernel_rfl) (by kernel_rfl) (fun _ _ _ h => h) (by rfl) HS.out ?_ ?_
  rotate_left
  · intro wx hSx
    clear hSx
    go_simp
    try (with_reducible rfl)
  simp only [Act.put, List.setIfInBounds_toArray, List.set_cons_zero, List.set_cons_succ]
  refine takeD (i := 10) (some 138) (v := ?_) rfl rfl (by kernel_rfl) (by kernel_rfl) (by kernel_rfl) (fun _ _ _ h => h) (by rfl) HS.out ?_ ?_
  rotate_left
  · intro wx hSx
    obtain ⟨c0, c1, c2, c3, c4⟩ := (HB.out.below hSx).box.cells
    clear hSx
    go_simp
    try (with_reducible rfl)
  simp only [Act.put, List.setIfInBounds_toArray, List.set_cons_zero, List.set_cons_succ]
  refine wpAnyH_ready (rs := [5]) (by kernel_rfl) (by simp) ?_
  refine AllReadyH.cons rfl (fun K hK => ?_) AllReadyH.nil
  go_simp
  (with_reducible refine (HT.out _ HS.out).mono ?_)
  rintro e w3 ⟨rfl, hb⟩
  have HSw3 : Hid (Below w0.heap.size w0 w3) := Lib.hid (HS.out.trans (hb.mono HS.out.size))
  clear hb
  go_simp
  refine hK.out _ _ ?_ (fun hHeld => ?_)
  · exact HSw3.out
  clear hHeld hK K
  try simp only [Act.put, List.setIfInBounds_toArray, List.set_cons_zero, List.set_cons_succ]
  replace HS := HSw3
  refine wpAnyH_ready (rs := [11]) (by kernel_rfl) (by simp) ?_
  refine AllReadyH.cons rfl (fun K hK => ?_) AllReadyH.nil
  go_simp
  (with_reducible refine (HR.out _ HS.out).mono ?_)
  rintro e w4 ⟨rfl, hb⟩
  have HSw4 : Hid (Below w0.heap.size w0 w4) := Lib.hid (HS.out.trans (hb.mono HS.out.size))
  clear hb
  go_simp
  refine hK.out _ _ ?_ (fun hHeld => ?_)
  · exact HSw4.out
  clear hHeld hK K
  try simp only [Act.put, List.setIfInBounds_toArray, List.set_cons_zero, List.set_cons_succ]
  replace HS := HSw4
  refine takeD (i := 12) (some 140) (v := ?_) rfl rfl (by kernel_rfl) (by kernel_rfl) (by kernel_rfl) (fun _ _ _ h => h) (by rfl) HS.out ?_ ?_
  rotate_left
  · intro wx hSx
    clear hSx
    go_simp
    try (with_reducible rfl)
  simp only [Act.put, List.setIfInBounds_toArray, List.set_cons_zero, List.set_cons_succ]
  refine takeD (i := 13) (some 6) (v := ?_) rfl rfl (by kernel_rfl) (by kernel_rfl) (by kernel_rfl) (fun _ _ _ h => h) (by rfl) HS.out ?_ ?_
  rotate_left
  · intro wx hSx
    clear hSx
    go_simp
    try (with_reducible rfl)
  simp only [Act.put, List.setIfInBounds_toArray, List.set_cons_zero, List.set_cons_succ]
  refine wpAnyH_done (by kernel_rfl) ?_ _
  go_wp2
  go_ret
  exact (HB.out.below HSw4.out).done (by omega) (by first | rfl | (show Value.bool _ = _; rw [br]))

set_option maxHeartbeats 4000000 in
theorem both_2 (H : Two w F b d N st st) (hN : N < 900000) (x : ActV) (ha : In64 x.a) (hn : In63 x.n) (hv : In64 x.v) (hi : In63 x.i) (hd : x.d = 2) : Calls Tryz.prog 21 #[.pointer (some ⟨b, 0, none⟩), .pointer (some ⟨d, 0, none⟩), actV x] w (BothE w F b d N) := by
  obtain ⟨xd, xa, xn, xv, xi⟩ := x
  simp only at ha hn hv hi hd
  subst hd
  have HB := Lib.hid (Bx.start H ⟨2, xa, xn, xv, xi⟩)
  clear H
  go_enter Tryz.func21, Tryz.ntmps21
  go_upto_region 1 with (fail)
  generalize w.alloc (.cells #[.int .i64 2, .int .u64 xa, .int .i64 xn, .int .u64 xv, .int .i64 xi] 50) = w0 at *
  generalize w.heap.size = q at *
  obtain ⟨c0, c1, c2, c3, c4⟩ := HB.out.box.cells
  have HV := Lib.hid hv
  have HA := Lib.hid ha
  have HI := Lib.hid hi
  have HN := Lib.hid hn
  clear hv ha hi hn
  have hv0 := HV.out.1
  go_wp2_with (fail)
  (with_reducible refine (tFeed HB.out.two xi _ (u8_mod xv)).mono ?_)
  rintro e w1 k
  obtain ⟨rfl, F1, hb1⟩ := HB.out.tell k
  clear k c0 c1 c2 c3 c4
  obtain ⟨c0, c1, c2, c3, c4⟩ := hb1.box.cells
  have HB1 := Lib.hid hb1
  clear hb1
  have HD := Lib.hid (HB1.out.below ((Below.refl w1.heap.size w1).drew))
  have HRFD : Hid (Calls Tryz.prog 57 #[.pointer (some ⟨d, 0, none⟩), .int .i64 xi, .int .u8 (IntKind.u8.wrap xv)] w1.drew (TellT w1.drew F1 b d N (.bool (busFd st xi (xv % 256)).1) (busFd st xi (xv % 256)).2 (busFd st xi (xv % 256)).2)) := Lib.hid (by rw [show IntKind.u8.wrap xv = xv % 256 from IntKind.wrap_u8 xv]; exact rFeed HD.out.two xi _ (u8_mod xv))
  generalize (busFd st xi (xv % 256)).1 = rf at *
  generalize (busFd st xi (xv % 256)).2 = st2 at *
  go_wp2_with fail
  refine wp_region_held_drew (S := fun wx => Only F1 w1 wx) (by kernel_rfl) (Only.of_below F1 ((Below.refl w1.heap.size w1).drew)) (fun hHeld0 => ?_)
  have HS := Lib.hid hHeld0
  clear hHeld0
  refine takeD (i := 0) (some 74) (v := ?_) rfl rfl (by kernel_rfl) (by kernel_rfl) (by kernel_rfl) (fun _ _ _ h => h) (by rfl) HS.out ?_ ?_
  rotate_left
  · intro wx hSx
    clear hSx
    go_simp
    try (with_reducible rfl)
  simp only [Act.put, List.setIfInBounds_toArray, List.set_cons_zero, List.set_cons_succ]
  refine takeD (i := 1) (some 75) (v := ?_) rfl rfl (by kernel_rfl) (by kernel_rfl) (by kernel_rfl) (fun _ _ _ h => h) (by rfl) HS.out ?_ ?_
  rotate_left
  · intro wx hSx
    clear hSx
    go_simp
    try (with_reducible rfl)
  simp only [Act.put, List.setIfInBounds_toArray, List.set_cons_zero, List.set_cons_succ]
  refine takeD (i := 2) (some 76) (v := ?_) rfl rfl (by kernel_rfl) (by kernel_rfl) (by kernel_rfl) (fun _ _ _ h => h) (by rfl) HS.out ?_ ?_
  rotate_left
  · intro wx hSx
    clear hSx
    go_simp
    try (with_reducible rfl)
  simp only [Act.put, List.setIfInBounds_toArray, List.set_cons_zero, List.set_cons_succ]
  refine takeD (i := 3) (some 77) (v := ?_) rfl rfl (by kernel_rfl) (by kernel_rfl) (by kernel_rfl) (fun _ _ _ h => h) (by rfl) HS.out ?_ ?_
  rotate_left
  · intro wx hSx
    obtain ⟨c0, c1, c2, c3, c4⟩ := (HB1.out.box.keeps hSx HB1.out.far).cells
    clear hSx
    go_simp
    try (with_reducible rfl)
  simp only [Act.put, List.setIfInBounds_toArray, List.set_cons_zero, List.set_cons_succ]
  refine takeD (i := 4) (some 78) (v := ?_) rfl rfl (by kernel_rfl) (by kernel_rfl) (by kernel_rfl) (fun _ _ _ h => h) (by rfl) HS.out ?_ ?_
  rotate_left
  · intro wx hSx
    clear hSx
    go_simp
    try (with_reducible rfl)
  simp only [Act.put, List.setIfInBounds_toArray, List.set_cons_zero, List.set_cons_succ]
  refine takeD (i := 5) (some 79) (v := ?_) rfl rfl (by kernel_rfl) (by kernel_rfl) (by kernel_rfl) (fun _ _ _ h => h) (by rfl) HS.out ?_ ?_
  rotate_left
  · intro wx hSx
    obtain ⟨c0, c1, c2, c3, c4⟩ := (HB1.out.box.keeps hSx HB1.out.far).cells
    clear hSx
    go_simp
    try (with_reducible rfl)
  simp only [Act.put, List.setIfInBounds_toArray, List.set_cons_zero, List.set_cons_succ]
  refine takeD (i := 6) (some 80) (v := ?_) rfl rfl (by kernel_rfl) (by kernel_rfl) (by kernel_rfl) (fun _ _ _ h => h) (by rfl) HS.out ?_ ?_
  rotate_left
  · intro wx hSx
    clear hSx
    go_simp
    try (with_reducible rfl)
  simp only [Act.put, List.setIfInBounds_toArray, List.set_cons_zero, List.set_cons_succ]
  refine wpAnyH_ready (rs := [7]) (by kernel_rfl) (by simp) ?_
  refine AllReadyH.cons rfl (fun K hK => ?_) AllReadyH.nil
  go_simp
  (with_reducible refine (HRFD.out).mono ?_)
  rintro e w3 k
  have HO3 := Lib.hid ((Only.of_below F1 ((Below.refl w1.heap.size w1).drew)).trans k.2.choose_spec.1.1)
  obtain ⟨rfl, F2, hb2⟩ := HD.out.tell k
  clear k
  have HB2 := Lib.hid hb2
  clear hb2
  have HLN := Lib.hid (out_len HB2.out.two xi)
  have HOT : Hid (∀ wx, Below w3.heap.size w3 wx → Calls Tryz.prog 17 #[.pointer (some ⟨b, 0, none⟩), .int .i64 xi] wx (OutE wx (busOt st2.us xi))) := Lib.hid fun wx hx => tOut (HB2.out.two.below hx) xi
  have HOR : Hid (∀ wx, Below w3.heap.size w3 wx → Calls Tryz.prog 23 #[.pointer (some ⟨d, 0, none⟩), .int .i64 xi] wx (OutE wx (busOt st2.us xi))) := Lib.hid fun wx hx => rOut (HB2.out.two.below hx) xi
  have HSTR : Hid (∀ wx v, U6.RowB wx v (busOt st2.us xi) → (convert 40 9 v).run Tryz.prog wx = .ok (.string (strOfNums (busOt st2.us xi))) wx) := Lib.hid fun wx v h => U6.conv_row h HLN.out
  generalize strOfNums (busOt st2.us xi) = sO at *
  generalize busOt st2.us xi = L at *
  have bo : (sO.toList == sO.toList) = true := by simp
  go_simp
  refine hK.out _ _ ?_ (fun hHeld => ?_)
  · exact HO3.out
  clear hHeld hK K
  try simp only [Act.put, List.setIfInBounds_toArray, List.set_cons_zero, List.set_cons_succ]
  refine wpAnyH_more (T := fun wx => Below w3.heap.size w3 wx) (fun wx hx => HO3.out.thenBelow hx) _ _ _ _ ?_
  replace HS : Hid (Below w3.heap.size w3 w3) := Lib.hid (Below.refl _ _)
  have brf := beq_self_b rf
  refine takeD (i := 8) (some 82) (v := ?_) rfl rfl (by kernel_rfl) (by kernel_rfl) (by kernel_rfl) (fun _ _ _ h => h) (by rfl) HS.out ?_ ?_
  rotate_left
  · intro wx hSx
    clear hSx
    go_simp
    try (with_reducible rfl)
  simp only [Act.put, List.setIfInBounds_toArray, List.set_cons_zero, List.set_cons_succ]
  refine takeD (i := 9) (some 83) (v := ?_) rfl rfl (by kernel_rfl) (by kernel_rfl) (by kernel_rfl) (fun _ _ _ h => h) (by rfl) HS.out ?_ ?_
  rotate_left
  · intro wx hSx
    clear hSx
    go_simp
    try (with_reducible rfl)
  simp only [Act.put, List.setIfInBounds_toArray, List.set_cons_zero, List.set_cons_succ]
  refine takeD (i := 10) (some 84) (v := ?_) rfl rfl (by kernel_rfl) (by kernel_rfl) (by kernel_rfl) (fun _ _ _ h => h) (by rfl) HS.out ?_ ?_
  rotate_left
  · intro wx hSx
    clear hSx
    go_simp
    try (with_reducible rfl)
  simp only [Act.put, List.setIfInBounds_toArray, List.set_cons_zero, List.set_cons_succ]
  refine takeD (i := 11) (some 85) (v := ?_) rfl rfl (by kernel_rfl) (by kernel_rfl) (by kernel_rfl) (fun _ _ _ h => h) (by rfl) HS.out ?_ ?_
  rotate_left
  · intro wx hSx
    clear hSx
    go_simp
    try (with_reducible rfl)
  simp only [Act.put, List.setIfInBounds_toArray, List.set_cons_zero, List.set_cons_succ]
  refine takeD (i := 12) (some 86) (v := ?_) rfl rfl (by kernel_rfl) (by kernel_rfl) (by kernel_rfl) (fun _ _ _ h => h) (by rfl) HS.out ?_ ?_
  rotate_left
  · intro wx hSx
    obtain ⟨c0, c1, c2, c3, c4⟩ := (HB2.out.below hSx).box.cells
    clear hSx
    go_simp
    try (with_reducible rfl)
  simp only [Act.put, List.setIfInBounds_toArray, List.set_cons_zero, List.set_cons_succ]
  refine takeD (i := 15) (some 89) (v := ?_) rfl rfl (by kernel_rfl) (by kernel_rfl) (by kernel_rfl) (fun _ _ _ h => h) (by rfl) HS.out ?_ ?_
  rotate_left
  · intro wx hSx
    clear hSx
    go_simp
    try (with_reducible rfl)
  simp only [Act.put, List.setIfInBounds_toArray, List.set_cons_zero, List.set_cons_succ]
  refine takeD (i := 16) (some 90) (v := ?_) rfl rfl (by kernel_rfl) (by kernel_rfl) (by kernel_rfl) (fun _ _ _ h => h) (by rfl) HS.out ?_ ?_
  rotate_left
  · intro wx hSx
    clear hSx
    go_simp
    try (with_reducible rfl)
  simp only [Act.put, List.setIfInBounds_toArray, List.set_cons_zero, List.set_cons_succ]
  refine takeD (i := 17) (some 91) (v := ?_) rfl rfl (by kernel_rfl) (by kernel_rfl) (by kernel_rfl) (fun _ _ _ h => h) (by rfl) HS.out ?_ ?_
  rotate_left
  · intro wx hSx
    obtain ⟨c0, c1, c2, c3, c4⟩ := (HB2.out.below hSx).box.cells
    clear hSx
    go_simp
    try (with_reducible rfl)
  simp only [Act.put, List.setIfInBounds_toArray, List.set_cons_zero, List.set_cons_succ]
  refine wpAnyH_ready (rs := [13]) (by kernel_rfl) (by simp) ?_
  refine AllReadyH.cons rfl (fun K hK => ?_) AllReadyH.nil
  go_simp
  (with_reducible refine (HOT.out _ (HS.out)).mono ?_)
  rintro e w5 ⟨a5, k5, rfl, hb5, hr5⟩
  have HB5 : Hid (Below w3.heap.size w3 w5) := Lib.hid ((HS.out).trans (hb5.mono (HS.out).size))
  have HC5 : Hid (∀ wx, Below w5.heap.size w5 wx → (convert 40 9 (.slice a5 L.length k5)).run Tryz.prog wx = .ok (.string sO) wx) := Lib.hid fun wx hx => HSTR.out wx _ (hr5.below hx)
  have HX5 := Lib.hid hb5
  clear hb5 hr5
  go_simp
  refine hK.out _ _ ?_ (fun hHeld => ?_)
  · exact HB5.out
  clear hHeld hK K
  try simp only [Act.put, List.setIfInBounds_toArray, List.set_cons_zero, List.set_cons_succ]
  refine wpAnyH_more (T := fun wx => Below w5.heap.size w5 wx) (fun wx hx => HB5.out.trans (hx.mono HB5.out.size)) _ _ _ _ ?_
  replace HS : Hid (Below w5.heap.size w5 w5) := Lib.hid (Below.refl _ _)
  refine takeD (i := 14) (some 88) (v := ?_) rfl rfl (by kernel_rfl) (by kernel_rfl) (by kernel_rfl) (fun _ _ _ h => h) (by rfl) HS.out ?_ ?_
  rotate_left
  · intro wx hSx
    have hcv := HC5.out wx hSx
    clear hSx
    go_simp
    try (with_reducible rfl)
  simp only [Act.put, List.setIfInBounds_toArray, List.set_cons_zero, List.set_cons_succ]
  refine wpAnyH_ready (rs := [18]) (by kernel_rfl) (by simp) ?_
  refine AllReadyH.cons rfl (fun K hK => ?_) AllReadyH.nil
  go_simp
  (with_reducible refine (HOR.out _ (HB5.out.trans (HS.out.mono HB5.out.size))).mono ?_)
  rintro e w7 ⟨a7, k7, rfl, hb5, hr5⟩
  have HB7 : Hid (Below w3.heap.size w3 w7) := Lib.hid ((HB5.out.trans (HS.out.mono HB5.out.size)).trans (hb5.mono (HB5.out.trans (HS.out.mono HB5.out.size)).size))
  have HC7 : Hid (∀ wx, Below w7.heap.size w7 wx → (convert 40 9 (.slice a7 L.length k7)).run Tryz.prog wx = .ok (.string sO) wx) := Lib.hid fun wx hx => HSTR.out wx _ (hr5.below hx)
  have HX7 := Lib.hid hb5
  clear hb5 hr5
  go_simp
  refine hK.out _ _ ?_ (fun hHeld => ?_)
  · exact HS.out.trans (HX7.out.mono HS.out.size)
  clear hHeld hK K
  try simp only [Act.put, List.setIfInBounds_toArray, List.set_cons_zero, List.set_cons_succ]
  refine wpAnyH_more (T := fun wx => Below w7.heap.size w7 wx) (fun wx hx => HX7.out.trans (hx.mono HX7.out.size)) _ _ _ _ ?_
  replace HS : Hid (Below w7.heap.size w7 w7) := Lib.hid (Below.refl _ _)
  refine takeD (i := 19) (some 93) (v := ?_) rfl rfl (by kernel_rfl) (by kernel_rfl) (by kernel_rfl) (fun _ _ _ h => h) (by rfl) HS.out ?_ ?_
  rotate_left
  · intro wx hSx
    have hcv := HC7.out wx hSx
    clear hSx
    go_simp
    try (with_reducible rfl)
  simp only [Act.put, List.setIfInBounds_toArray, List.set_cons_zero, List.set_cons_succ]
  refine takeD (i := 20) (some 94) (v := ?_) rfl rfl (by kernel_rfl) (by kernel_rfl) (by kernel_rfl) (fun _ _ _ h => h) (by rfl) HS.out ?_ ?_
  rotate_left
  · intro wx hSx
    clear hSx
    go_simp
    try (with_reducible rfl)
  simp only [Act.put, List.setIfInBounds_toArray, List.set_cons_zero, List.set_cons_succ]
  refine takeD (i := 21) (some 95) (v := ?_) rfl rfl (by kernel_rfl) (by kernel_rfl) (by kernel_rfl) (fun _ _ _ h => h) (by rfl) HS.out ?_ ?_
  rotate_left
  · intro wx hSx
    clear hSx
    go_simp
    try (with_reducible rfl)
  simp only [Act.put, List.setIfInBounds_toArray, List.set_cons_zero, List.set_cons_succ]
  refine takeD (i := 22) (some 6) (v := ?_) rfl rfl (by kernel_rfl) (by kernel_rfl) (by kernel_rfl) (fun _ _ _ h => h) (by rfl) HS.out ?_ ?_
  rotate_left
  · intro wx hSx
    clear hSx
    go_simp
    try (with_reducible rfl)
  simp only [Act.put, List.setIfInBounds_toArray, List.set_cons_zero, List.set_cons_succ]
  refine wpAnyH_done (by kernel_rfl) ?_ _
  go_wp2
  go_ret
  exact (HB2.out.below HB7.out).done (by omega) rfl

set_option maxHeartbeats 4000000 in
theorem both_7 (H : Two w F b d N st st) (hN : N < 900000) (x : ActV) (ha : In64 x.a) (hn : In63 x.n) (hv : In64 x.v) (hi : In63 x.i) (hd : x.d = 7) : Calls Tryz.prog 21 #[.pointer (some ⟨b, 0, none⟩), .pointer (some ⟨d, 0, none⟩), actV x] w (BothE w F b d N) := by
  obtain ⟨xd, xa, xn, xv, xi⟩ := x
  simp only at ha hn hv hi hd
  subst hd
  have HB := Lib.hid (Bx.start H ⟨7, xa, xn, xv, xi⟩)
  clear H
  go_enter Tryz.func21, Tryz.ntmps21
  go_upto_region 1 with (fail)
  generalize w.alloc (.cells #[.int .i64 7, .int .u64 xa, .int .i64 xn, .int .u64 xv, .int .i64 xi] 50) = w0 at *
  generalize w.heap.size = q at *
  obtain ⟨c0, c1, c2, c3, c4⟩ := HB.out.box.cells
  have HV := Lib.hid hv
  have HA := Lib.hid ha
  have HI := Lib.hid hi
  have HN := Lib.hid hn
  clear hv ha hi hn
  have HD := Lib.hid (HB.out.below ((Below.refl w0.heap.size w0).drew))
  obtain ⟨g, r1, r2⟩ := tRam HD.out.two
  have HR1 := Lib.hid r1
  have HR2 := Lib.hid r2
  clear r1 r2
  go_wp2_with fail
  refine wp_region_held_drew (S := fun wx => Only F w0 wx) (by kernel_rfl) (Only.of_below F ((Below.refl w0.heap.size w0).drew)) (fun hHeld0 => ?_)
  have HS := Lib.hid hHeld0
  clear hHeld0
  refine takeD (i := 0) (some 145) (v := ?_) rfl rfl (by kernel_rfl) (by kernel_rfl) (by kernel_rfl) (fun _ _ _ h => h) (by rfl) HS.out ?_ ?_
  rotate_left
  · intro wx hSx
    clear hSx
    go_simp
    try (with_reducible rfl)
  simp only [Act.put, List.setIfInBounds_toArray, List.set_cons_zero, List.set_cons_succ]
  refine takeD (i := 2) (some 147) (v := ?_) rfl rfl (by kernel_rfl) (by kernel_rfl) (by kernel_rfl) (fun _ _ _ h => h) (by rfl) HS.out ?_ ?_
  rotate_left
  · intro wx hSx
    clear hSx
    go_simp
    try (with_reducible rfl)
  simp only [Act.put, List.setIfInBounds_toArray, List.set_cons_zero, List.set_cons_succ]
  refine takeD (i := 3) (some 148) (v := ?_) rfl rfl (by kernel_rfl) (by kernel_rfl) (by kernel_rfl) (fun _ _ _ h => h) (by rfl) HS.out ?_ ?_
  rotate_left
  · intro wx hSx
    obtain ⟨c0, c1, c2, c3, c4⟩ := (HB.out.box.keeps hSx HB.out.far).cells
    clear hSx
    go_simp
    try (with_reducible rfl)
  simp only [Act.put, List.setIfInBounds_toArray, List.set_cons_zero, List.set_cons_succ]
  refine takeD (i := 4) (some 149) (v := ?_) rfl rfl (by kernel_rfl) (by kernel_rfl) (by kernel_rfl) (fun _ _ _ h => h) (by rfl) HS.out ?_ ?_
  rotate_left
  · intro wx hSx
    clear hSx
    go_simp
    try (with_reducible rfl)
  simp only [Act.put, List.setIfInBounds_toArray, List.set_cons_zero, List.set_cons_succ]
  refine takeD (i := 5) (some 150) (v := ?_) rfl rfl (by kernel_rfl) (by kernel_rfl) (by kernel_rfl) (fun _ _ _ h => h) (by rfl) HS.out ?_ ?_
  rotate_left
  · intro wx hSx
    obtain ⟨c0, c1, c2, c3, c4⟩ := (HB.out.box.keeps hSx HB.out.far).cells
    clear hSx
    go_simp
    try (with_reducible rfl)
  simp only [Act.put, List.setIfInBounds_toArray, List.set_cons_zero, List.set_cons_succ]
  refine takeD (i := 6) (some 151) (v := ?_) rfl rfl (by kernel_rfl) (by kernel_rfl) (by kernel_rfl) (fun _ _ _ h => h) (by rfl) HS.out ?_ ?_
  rotate_left
  · intro wx hSx
    clear hSx
    go_simp
    try (with_reducible rfl)
  simp only [Act.put, List.setIfInBounds_toArray, List.set_cons_zero, List.set_cons_succ]
  refine takeD (i := 7) (some 152) (v := ?_) rfl rfl (by kernel_rfl) (by kernel_rfl) (by kernel_rfl) (fun _ _ _ h => h) (by rfl) HS.out ?_ ?_
  rotate_left
  · intro wx hSx
    obtain ⟨c0, c1, c2, c3, c4⟩ := (HB.out.box.keeps hSx HB.out.far).cells
    clear hSx
    go_simp
    try (with_reducible rfl)
  simp only [Act.put, List.setIfInBounds_toArray, List.set_cons_zero, List.set_cons_succ]
  refine wpAnyH_ready (rs := [1]) (by kernel_rfl) (by simp) ?_
  refine AllReadyH.cons rfl (fun K hK => ?_) AllReadyH.nil
  go_simp
  (with_reducible refine HR1.out.mono ?_)
  rintro e wz ⟨rfl, rfl⟩
  go_simp
  refine hK.out _ _ ?_ (fun hHeld => ?_)
  · exact HS.out
  clear hHeld hK K
  try simp only [Act.put, List.setIfInBounds_toArray, List.set_cons_zero, List.set_cons_succ]
  refine wpAnyH_ready (rs := [8]) (by kernel_rfl) (by simp) ?_
  refine AllReadyH.cons rfl (fun K hK => ?_) AllReadyH.nil
  go_simp
  (with_reducible refine (HR2.out xa xn xv HA.out HN.out HV.out).mono ?_)
  rintro e w1 k
  have HO1 := Lib.hid ((Only.of_below F ((Below.refl w0.heap.size w0).drew)).trans k.2.choose_spec.1.1)
  obtain ⟨rfl, F1, hb1⟩ := HD.out.tell k
  clear k
  have HB1 := Lib.hid hb1
  clear hb1
  go_simp
  refine hK.out _ _ ?_ (fun hHeld => ?_)
  · exact HO1.out
  clear hHeld hK K
  try simp only [Act.put, List.setIfInBounds_toArray, List.set_cons_zero, List.set_cons_succ]
  replace HS := HO1
  refine takeD (i := 9) (some 14) (v := ?_) rfl rfl (by kernel_rfl) (by kernel_rfl) (by kernel_rfl) (fun _ _ _ h => h) (by rfl) HS.out ?_ ?_
  rotate_left
  · intro wx hSx
    clear hSx
    go_simp
    try (with_reducible rfl)
  simp only [Act.put, List.setIfInBounds_toArray, List.set_cons_zero, List.set_cons_succ]
  refine wpAnyH_done (by kernel_rfl) ?_ _
  have HE := Lib.hid (HB1.out.below ((Below.refl w1.heap.size w1).drew))
  obtain ⟨hm, s1, s2⟩ := rRam HE.out.two hN
  have HCD := Lib.hid s1
  have HRW := Lib.hid (s2 xa xn xv HA.out HV.out)
  clear s1 s2 HS
  generalize (M3.okN xn && M3.hasZ 2147483648 st.size xa xn) = r at *
  have br := beq_self_b r
  go_wp2_with fail
  refine wp_region_held_drew (S := fun wx => Only F1 w1 wx ∧ wx.cell? ⟨d, 0, none⟩ = some (.pointer (some ⟨hm, 0, none⟩))) (by kernel_rfl) (⟨Only.of_below F1 ((Below.refl w1.heap.size w1).drew), HCD.out⟩) (fun hHeld0 => ?_)
  have HS := Lib.hid hHeld0
  clear hHeld0
  refine takeD (i := 0) (some 154) (v := ?_) rfl rfl (by kernel_rfl) (by kernel_rfl) (by kernel_rfl) (fun _ _ _ h => h) (by rfl) HS.out ?_ ?_
  rotate_left
  · intro wx hSx
    clear hSx
    go_simp
    try (with_reducible rfl)
  simp only [Act.put, List.setIfInBounds_toArray, List.set_cons_zero, List.set_cons_succ]
  refine takeD (i := 1) (some 155) (v := ?_) rfl rfl (by kernel_rfl) (by kernel_rfl) (by kernel_rfl) (fun _ _ _ h => h) (by rfl) HS.out ?_ ?_
  rotate_left
  · intro wx hSx
    clear hSx
    go_simp
    try (with_reducible rfl)
  simp only [Act.put, List.setIfInBounds_toArray, List.set_cons_zero, List.set_cons_succ]
  refine takeD (i := 2) (some 156) (v := ?_) rfl rfl (by kernel_rfl) (by kernel_rfl) (by kernel_rfl) (fun _ _ _ h => h) (by rfl) HS.out ?_ ?_
  rotate_left
  · intro wx hSx
    clear hSx
    go_simp
    try (with_reducible rfl)
  simp only [Act.put, List.setIfInBounds_toArray, List.set_cons_zero, List.set_cons_succ]
  refine takeD (i := 3) (some 157) (v := ?_) rfl rfl (by kernel_rfl) (by kernel_rfl) (by kernel_rfl) (fun _ _ _ h => h) (by rfl) HS.out ?_ ?_
  rotate_left
  · intro wx hSx
    clear hSx
    go_simp
    try (with_reducible rfl)
  simp only [Act.put, List.setIfInBounds_toArray, List.set_cons_zero, List.set_cons_succ]
  refine takeD (i := 4) (some 158) (v := ?_) rfl rfl (by kernel_rfl) (by kernel_rfl) (by kernel_rfl) (fun _ _ _ h => h) (by rfl) HS.out ?_ ?_
  rotate_left
  · intro wx hSx
    have c9 := hSx.2
    clear hSx
    go_simp
    try (with_reducible rfl)
  simp only [Act.put, List.setIfInBounds_toArray, List.set_cons_zero, List.set_cons_succ]
  refine takeD (i := 5) (some 159) (v := ?_) rfl rfl (by kernel_rfl) (by kernel_rfl) (by kernel_rfl) (fun _ _ _ h => h) (by rfl) HS.out ?_ ?_
  rotate_left
  · intro wx hSx
    clear hSx
    go_simp
    try (with_reducible rfl)
  simp only [Act.put, List.setIfInBounds_toArray, List.set_cons_zero, List.set_cons_succ]
  refine takeD (i := 6) (some 160) (v := ?_) rfl rfl (by kernel_rfl) (by kernel_rfl) (by kernel_rfl) (fun _ _ _ h => h) (by rfl) HS.out ?_ ?_
  rotate_left
  · intro wx hSx
    obtain ⟨c0, c1, c2, c3, c4⟩ := (HB1.out.box.keeps hSx.1 HB1.out.far).cells
    clear hSx
    go_simp
    try (with_reducible rfl)
  simp only [Act.put, List.setIfInBounds_toArray, List.set_cons_zero, List.set_cons_succ]
  refine takeD (i := 7) (some 161) (v := ?_) rfl rfl (by kernel_rfl) (by kernel_rfl) (by kernel_rfl) (fun _ _ _ h => h) (by rfl) HS.out ?_ ?_
  rotate_left
  · intro wx hSx
    clear hSx
    go_simp
    try (with_reducible rfl)
  simp only [Act.put, List.setIfInBounds_toArray, List.set_cons_zero, List.set_cons_succ]
  refine takeD (i := 8) (some 162) (v := ?_) rfl rfl (by kernel_rfl) (by kernel_rfl) (by kernel_rfl) (fun _ _ _ h => h) (by rfl) HS.out ?_ ?_
  rotate_left
  · intro wx hSx
    obtain ⟨c0, c1, c2, c3, c4⟩ := (HB1.out.box.keeps hSx.1 HB1.out.far).cells
    clear hSx
    go_simp
    try (with_reducible rfl)
  simp only [Act.put, List.setIfInBounds_toArray, List.set_cons_zero, List.set_cons_succ]
  refine takeD (i := 9) (some 163) (v := ?_) rfl rfl (by kernel_rfl) (by kernel_rfl) (by kernel_rfl) (fun _ _ _ h => h) (by rfl) HS.out ?_ ?_
  rotate_left
  · intro wx hSx
    clear hSx
    go_simp
    try (with_reducible rfl)
  simp only [Act.put, List.setIfInBounds_toArray, List.set_cons_zero, List.set_cons_succ]
  refine takeD (i := 10) (some 164) (v := ?_) rfl rfl (by kernel_rfl) (by kernel_rfl) (by kernel_rfl) (fun _ _ _ h => h) (by rfl) HS.out ?_ ?_
  rotate_left
  · intro wx hSx
    obtain ⟨c0, c1, c2, c3, c4⟩ := (HB1.out.box.keeps hSx.1 HB1.out.far).cells
    clear hSx
    go_simp
    try (with_reducible rfl)
  simp only [Act.put, List.setIfInBounds_toArray, List.set_cons_zero, List.set_cons_succ]
  refine wpAnyH_ready (rs := [11]) (by kernel_rfl) (by simp) ?_
  refine AllReadyH.cons rfl (fun K hK => ?_) AllReadyH.nil
  go_simp
  (with_reducible refine (HRW.out).mono ?_)
  rintro e w3 ⟨k, hc3⟩
  have HO3 : Hid (Only F1 w1 w3 ∧ w3.cell? ⟨d, 0, none⟩ = some (.pointer (some ⟨hm, 0, none⟩))) := Lib.hid ⟨(Only.of_below F1 ((Below.refl w1.heap.size w1).drew)).trans k.2.choose_spec.1.1, hc3⟩
  obtain ⟨rfl, F2, hb2⟩ := HE.out.tell k
  clear k hc3
  have HB2 := Lib.hid hb2
  clear hb2
  go_simp
  refine hK.out _ _ ?_ (fun hHeld => ?_)
  · exact HO3.out
  clear hHeld hK K
  try simp only [Act.put, List.setIfInBounds_toArray, List.set_cons_zero, List.set_cons_succ]
  replace HS := HO3
  refine takeD (i := 12) (some 166) (v := ?_) rfl rfl (by kernel_rfl) (by kernel_rfl) (by kernel_rfl) (fun _ _ _ h => h) (by rfl) HS.out ?_ ?_
  rotate_left
  · intro wx hSx
    clear hSx
    go_simp
    try (with_reducible rfl)
  simp only [Act.put, List.setIfInBounds_toArray, List.set_cons_zero, List.set_cons_succ]
  refine takeD (i := 13) (some 6) (v := ?_) rfl rfl (by kernel_rfl) (by kernel_rfl) (by kernel_rfl) (fun _ _ _ h => h) (by rfl) HS.out ?_ ?_
  rotate_left
  · intro wx hSx
    clear hSx
    go_simp
    try (with_reducible rfl)
  simp only [Act.put, List.setIfInBounds_toArray, List.set_cons_zero, List.set_cons_succ]
  refine wpAnyH_done (by kernel_rfl) ?_ _
  go_wp2
  go_ret
  exact HB2.out.done (by omega) (by first | rfl | (show Value.bool _ = _; rw [br]))

set_option maxHeartbeats 4000000 in
theorem both_x (H : Two w F b d N st st) (x : ActV) (n0 : ¬ x.d = 0) (n1 : ¬ x.d = 1) (n2 : ¬ x.d = 2) (n3 : ¬ x.d = 3) (n4 : ¬ x.d = 4) (n6 : ¬ x.d = 6) (n7 : ¬ x.d = 7) : Calls Tryz.prog 21 #[.pointer (some ⟨b, 0, none⟩), .pointer (some ⟨d, 0, none⟩), actV x] w (BothE w F b d N) := by
  obtain ⟨xd, xa, xn, xv, xi⟩ := x
  simp only at n0 n1 n2 n3 n4 n6 n7
  have HB := Lib.hid (Bx.start H ⟨xd, xa, xn, xv, xi⟩)
  clear H
  have e0 : (xd == 0) = false := beq_eq_false_iff_ne.2 n0
  have e1 : (xd == 1) = false := beq_eq_false_iff_ne.2 n1
  have e2 : (xd == 2) = false := beq_eq_false_iff_ne.2 n2
  have e3 : (xd == 3) = false := beq_eq_false_iff_ne.2 n3
  have e4 : (xd == 4) = false := beq_eq_false_iff_ne.2 n4
  have e6 : (xd == 6) = false := beq_eq_false_iff_ne.2 n6
  have e7 : (xd == 7) = false := beq_eq_false_iff_ne.2 n7
  clear n0 n1 n2 n3 n4 n6 n7
  go_enter Tryz.func21, Tryz.ntmps21
  go_wp2
  go_ret
  exact HB.out.done (by omega) rfl
theorem both_any (H : Two w F b d N st st) (hN : N < 900000) (x : ActV) (ha : In64 x.a) (hn : In63 x.n) (hv : In64 x.v) (hi : In63 x.i) : Calls Tryz.prog 21 #[.pointer (some ⟨b, 0, none⟩), .pointer (some ⟨d, 0, none⟩), actV x] w (BothE w F b d N) := by
  by_cases n0 : x.d = 0
  · exact both_0 H hN x ha hn hv hi n0
  by_cases n1 : x.d = 1
  · exact both_1 H hN x ha hn hv hi n1
  by_cases n2 : x.d = 2
  · exact both_2 H hN x ha hn hv hi n2
  by_cases n3 : x.d = 3
  · exact both_3 H hN x ha hn hv hi n3
  by_cases n4 : x.d = 4
  · exact both_4 H hN x ha hn hv hi n4
  by_cases n6 : x.d = 6
  · exact both_6 H hN x ha hn hv hi n6
  by_cases n7 : x.d = 7
  · exact both_7 H hN x ha hn hv hi n7
  exact both_x H x n0 n1 n2 n3 n4 n6 n7

set_option maxHeartbeats 4000000 in
theorem bothN_0 (w : World) (x : ActV) (ha : In64 x.a) (hv : In64 x.v) (hd : x.d = 0) : Calls Tryz.prog 21 #[.pointer none, .pointer none, actV x] w (NoneE w) := by
  obtain ⟨xd, xa, xn, xv, xi⟩ := x
  simp only at ha hv hd
  subst hd
  have hv0 := hv.1
  have HB0 := Lib.hid ((Below.refl w.heap.size w).alloc (Nat.le_refl _) (.cells #[.int .i64 0, .int .u64 xa, .int .i64 xn, .int .u64 xv, .int .i64 xi] 50))
  have HBX : Hid (BoxA (w.alloc (.cells #[.int .i64 0, .int .u64 xa, .int .i64 xn, .int .u64 xv, .int .i64 xi] 50)) w.heap.size ⟨0, xa, xn, xv, xi⟩) := Lib.hid (heap_alloc_new w _)
  go_enter Tryz.func21, Tryz.ntmps21
  go_upto_region 1 with (fail)
  generalize w.alloc (.cells #[.int .i64 0, .int .u64 xa, .int .i64 xn, .int .u64 xv, .int .i64 xi] 50) = w0 at *
  obtain ⟨q, hq⟩ : ∃ q, q = w.heap.size := ⟨_, rfl⟩
  rw [← hq] at HBX
  rw [show w.heap.size = q from hq.symm]
  have HQ := Lib.hid hq
  clear hq ha hv
  obtain ⟨c0, c1, c2, c3, c4⟩ := HBX.out.cells
  go_wp2_with fail
  (with_reducible refine (write_none_bel xa xn xv _).mono ?_)
  rintro e w1 ⟨rfl, hb⟩
  have HB1 := Lib.hid (HB0.out.trans (hb.mono HB0.out.size))
  have HBX1 := Lib.hid (HBX.out.below hb)
  clear hb c0 c1 c2 c3 c4
  obtain ⟨c0, c1, c2, c3, c4⟩ := HBX1.out.cells
  go_wp2_with ((with_reducible refine (refWrite_none_bus xa xn xv _).mono ?_); rintro e w2 ⟨rfl, rfl⟩)
  go_ret
  exact ⟨rfl, HB1.out⟩

set_option maxHeartbeats 4000000 in
theorem bothN_1 (w : World) (x : ActV) (ha : In64 x.a) (hv : In64 x.v) (hd : x.d = 1) : Calls Tryz.prog 21 #[.pointer none, .pointer none, actV x] w (NoneE w) := by
  obtain ⟨xd, xa, xn, xv, xi⟩ := x
  simp only at ha hv hd
  subst hd
  have hv0 := hv.1
  have HB0 := Lib.hid ((Below.refl w.heap.size w).alloc (Nat.le_refl _) (.cells #[.int .i64 1, .int .u64 xa, .int .i64 xn, .int .u64 xv, .int .i64 xi] 50))
  have HBX : Hid (BoxA (w.alloc (.cells #[.int .i64 1, .int .u64 xa, .int .i64 xn, .int .u64 xv, .int .i64 xi] 50)) w.heap.size ⟨1, xa, xn, xv, xi⟩) := Lib.hid (heap_alloc_new w _)
  go_enter Tryz.func21, Tryz.ntmps21
  go_upto_region 1 with (fail)
  generalize w.alloc (.cells #[.int .i64 1, .int .u64 xa, .int .i64 xn, .int .u64 xv, .int .i64 xi] 50) = w0 at *
  obtain ⟨q, hq⟩ : ∃ q, q = w.heap.size := ⟨_, rfl⟩
  rw [← hq] at HBX
  rw [show w.heap.size = q from hq.symm]
  have HQ := Lib.hid hq
  clear hq ha hv
  obtain ⟨c0, c1, c2, c3, c4⟩ := HBX.out.cells
  go_wp2_with (first
    | ((with_reducible refine (read_none_bus xa xn _).mono ?_); rintro e w2 ⟨rfl, rfl⟩)
    | ((with_reducible refine (refRead_none_bus xa xn _).mono ?_); rintro e w2 ⟨rfl, rfl⟩))
  go_ret
  exact ⟨rfl, HB0.out⟩

set_option maxHeartbeats 4000000 in
theorem bothN_3 (w : World) (x : ActV) (ha : In64 x.a) (hv : In64 x.v) (hd : x.d = 3) : Calls Tryz.prog 21 #[.pointer none, .pointer none, actV x] w (NoneE w) := by
  obtain ⟨xd, xa, xn, xv, xi⟩ := x
  simp only at ha hv hd
  subst hd
  have hv0 := hv.1
  have HB0 := Lib.hid ((Below.refl w.heap.size w).alloc (Nat.le_refl _) (.cells #[.int .i64 3, .int .u64 xa, .int .i64 xn, .int .u64 xv, .int .i64 xi] 50))
  have HBX : Hid (BoxA (w.alloc (.cells #[.int .i64 3, .int .u64 xa, .int .i64 xn, .int .u64 xv, .int .i64 xi] 50)) w.heap.size ⟨3, xa, xn, xv, xi⟩) := Lib.hid (heap_alloc_new w _)
  go_enter Tryz.func21, Tryz.ntmps21
  go_upto_region 1 with (fail)
  generalize w.alloc (.cells #[.int .i64 3, .int .u64 xa, .int .i64 xn, .int .u64 xv, .int .i64 xi] 50) = w0 at *
  obtain ⟨q, hq⟩ : ∃ q, q = w.heap.size := ⟨_, rfl⟩
  rw [← hq] at HBX
  rw [show w.heap.size = q from hq.symm]
  have HQ := Lib.hid hq
  clear hq ha hv
  obtain ⟨c0, c1, c2, c3, c4⟩ := HBX.out.cells
  go_wp2_with (first
    | ((with_reducible refine (level_none_bus xi _ _).mono ?_); rintro e w2 ⟨rfl, rfl⟩)
    | ((with_reducible refine (refLevel_none_bus xi _ _).mono ?_); rintro e w2 ⟨rfl, rfl⟩))
  go_ret
  exact ⟨rfl, HB0.out⟩

set_option maxHeartbeats 4000000 in
theorem bothN_4 (w : World) (x : ActV) (ha : In64 x.a) (hv : In64 x.v) (hd : x.d = 4) : Calls Tryz.prog 21 #[.pointer none, .pointer none, actV x] w (NoneE w) := by
  obtain ⟨xd, xa, xn, xv, xi⟩ := x
  simp only at ha hv hd
  subst hd
  have hv0 := hv.1
  have HB0 := Lib.hid ((Below.refl w.heap.size w).alloc (Nat.le_refl _) (.cells #[.int .i64 4, .int .u64 xa, .int .i64 xn, .int .u64 xv, .int .i64 xi] 50))
  have HBX : Hid (BoxA (w.alloc (.cells #[.int .i64 4, .int .u64 xa, .int .i64 xn, .int .u64 xv, .int .i64 xi] 50)) w.heap.size ⟨4, xa, xn, xv, xi⟩) := Lib.hid (heap_alloc_new w _)
  go_enter Tryz.func21, Tryz.ntmps21
  go_upto_region 1 with (fail)
  generalize w.alloc (.cells #[.int .i64 4, .int .u64 xa, .int .i64 xn, .int .u64 xv, .int .i64 xi] 50) = w0 at *
  obtain ⟨q, hq⟩ : ∃ q, q = w.heap.size := ⟨_, rfl⟩
  rw [← hq] at HBX
  rw [show w.heap.size = q from hq.symm]
  have HQ := Lib.hid hq
  clear hq ha hv
  obtain ⟨c0, c1, c2, c3, c4⟩ := HBX.out.cells
  go_wp2_with (first
    | ((with_reducible refine (tick_none_bus xv _).mono ?_); rintro e w2 ⟨⟨u, rfl⟩, rfl⟩)
    | ((with_reducible refine (refTick_none_bus xv _).mono ?_); rintro e w2 ⟨⟨u, rfl⟩, rfl⟩))
  go_ret
  exact ⟨rfl, HB0.out⟩

set_option maxHeartbeats 4000000 in
theorem bothN_7 (w : World) (x : ActV) (ha : In64 x.a) (hv : In64 x.v) (hd : x.d = 7) : Calls Tryz.prog 21 #[.pointer none, .pointer none, actV x] w (NoneE w) := by
  obtain ⟨xd, xa, xn, xv, xi⟩ := x
  simp only at ha hv hd
  subst hd
  have hv0 := hv.1
  have HB0 := Lib.hid ((Below.refl w.heap.size w).alloc (Nat.le_refl _) (.cells #[.int .i64 7, .int .u64 xa, .int .i64 xn, .int .u64 xv, .int .i64 xi] 50))
  have HBX : Hid (BoxA (w.alloc (.cells #[.int .i64 7, .int .u64 xa, .int .i64 xn, .int .u64 xv, .int .i64 xi] 50)) w.heap.size ⟨7, xa, xn, xv, xi⟩) := Lib.hid (heap_alloc_new w _)
  go_enter Tryz.func21, Tryz.ntmps21
  go_upto_region 1 with (fail)
  generalize w.alloc (.cells #[.int .i64 7, .int .u64 xa, .int .i64 xn, .int .u64 xv, .int .i64 xi] 50) = w0 at *
  obtain ⟨q, hq⟩ : ∃ q, q = w.heap.size := ⟨_, rfl⟩
  rw [← hq] at HBX
  rw [show w.heap.size = q from hq.symm]
  have HQ := Lib.hid hq
  clear hq ha hv
  obtain ⟨c0, c1, c2, c3, c4⟩ := HBX.out.cells
  go_wp2
  go_ret
  exact ⟨rfl, HB0.out⟩

set_option maxHeartbeats 4000000 in
theorem bothN_6 (w : World) (x : ActV) (ha : In64 x.a) (hv : In64 x.v) (hd : x.d = 6) : Calls Tryz.prog 21 #[.pointer none, .pointer none, actV x] w (NoneE w) := by
  obtain ⟨xd, xa, xn, xv, xi⟩ := x
  simp only at ha hv hd
  subst hd
  have hv0 := hv.1
  have HB0 := Lib.hid ((Below.refl w.heap.size w).alloc (Nat.le_refl _) (.cells #[.int .i64 6, .int .u64 xa, .int .i64 xn, .int .u64 xv, .int .i64 xi] 50))
  have HBX : Hid (BoxA (w.alloc (.cells #[.int .i64 6, .int .u64 xa, .int .i64 xn, .int .u64 xv, .int .i64 xi] 50)) w.heap.size ⟨6, xa, xn, xv, xi⟩) := Lib.hid (heap_alloc_new w _)
  go_enter Tryz.func21, Tryz.ntmps21
  go_upto_region 1 with (fail)
  generalize w.alloc (.cells #[.int .i64 6, .int .u64 xa, .int .i64 xn, .int .u64 xv, .int .i64 xi] 50) = w0 at *
  obtain ⟨q, hq⟩ : ∃ q, q = w.heap.size := ⟨_, rfl⟩
  rw [← hq] at HBX
  rw [show w.heap.size = q from hq.symm]
  have HQ := Lib.hid hq
  clear hq ha hv
  obtain ⟨c0, c1, c2, c3, c4⟩ := HBX.out.cells
  go_wp2_with fail
  refine wp_region_held_drew (S := fun wx => Below w0.heap.size w0 wx) (by kernel_rfl) ((Below.refl _ _).drew) (fun hHeld0 => ?_)
  have HS := Lib.hid hHeld0
  clear hHeld0
  refine takeD (i := 0) (some 128) (v := ?_) rfl rfl (by kernel_rfl) (by kernel_rfl) (by kernel_rfl) (fun _ _ _ h => h) (by rfl) HS.out ?_ ?_
  rotate_left
  · intro wx hSx
    clear hSx
    go_simp
    try (with_reducible rfl)
  simp only [Act.put, List.setIfInBounds_toArray, List.set_cons_zero, List.set_cons_succ]
  refine takeD (i := 1) (some 129) (v := ?_) rfl rfl (by kernel_rfl) (by kernel_rfl) (by kernel_rfl) (fun _ _ _ h => h) (by rfl) HS.out ?_ ?_
  rotate_left
  · intro wx hSx
    clear hSx
    go_simp
    try (with_reducible rfl)
  simp only [Act.put, List.setIfInBounds_toArray, List.set_cons_zero, List.set_cons_succ]
  refine takeD (i := 2) (some 130) (v := ?_) rfl rfl (by kernel_rfl) (by kernel_rfl) (by kernel_rfl) (fun _ _ _ h => h) (by rfl) HS.out ?_ ?_
  rotate_left
  · intro wx hSx
    obtain ⟨c0, c1, c2, c3, c4⟩ := (HBX.out.below hSx).cells
    clear hSx
    go_simp
    try (with_reducible rfl)
  simp only [Act.put, List.setIfInBounds_toArray, List.set_cons_zero, List.set_cons_succ]
  refine takeD (i := 3) (some 131) (v := ?_) rfl rfl (by kernel_rfl) (by kernel_rfl) (by kernel_rfl) (fun _ _ _ h => h) (by rfl) HS.out ?_ ?_
  rotate_left
  · intro wx hSx
    clear hSx
    go_simp
    try (with_reducible rfl)
  simp only [Act.put, List.setIfInBounds_toArray, List.set_cons_zero, List.set_cons_succ]
  refine takeD (i := 4) (some 132) (v := ?_) rfl rfl (by kernel_rfl) (by kernel_rfl) (by kernel_rfl) (fun _ _ _ h => h) (by rfl) HS.out ?_ ?_
  rotate_left
  · intro wx hSx
    obtain ⟨c0, c1, c2, c3, c4⟩ := (HBX.out.below hSx).cells
    clear hSx
    go_simp
    try (with_reducible rfl)
  simp only [Act.put, List.setIfInBounds_toArray, List.set_cons_zero, List.set_cons_succ]
  refine takeD (i := 6) (some 134) (v := ?_) rfl rfl (by kernel_rfl) (by kernel_rfl) (by kernel_rfl) (fun _ _ _ h => h) (by rfl) HS.out ?_ ?_
  rotate_left
  · intro wx hSx
    clear hSx
    go_simp
    try (with_reducible rfl)
  simp only [Act.put, List.setIfInBounds_toArray, List.set_cons_zero, List.set_cons_succ]
  refine takeD (i := 7) (some 135) (v := ?_) rfl rfl (by kernel_rfl) (by kernel_rfl) (by kernel_rfl) (fun _ _ _ h => h) (by rfl) HS.out ?_ ?_
  rotate_left
  · intro wx hSx
    clear hSx
    go_simp
    try (with_reducible rfl)
  simp only [Act.put, List.setIfInBounds_toArray, List.set_cons_zero, List.set_cons_succ]
  refine takeD (i := 8) (some 136) (v := ?_) rfl rfl (by kernel_rfl) (by kernel_rfl) (by kernel_rfl) (fun _ _ _ h => h) (by rfl) HS.out ?_ ?_
  rotate_left
  · intro wx hSx
    obtain ⟨c0, c1, c2, c3, c4⟩ := (HBX.out.below hSx).cells
    clear hSx
    go_simp
    try (with_reducible rfl)
  simp only [Act.put, List.setIfInBounds_toArray, List.set_cons_zero, List.set_cons_succ]
  refine takeD (i := 9) (some 137) (v := ?_) rfl rfl (by kernel_rfl) (by kernel_rfl) (by kernel_rfl) (fun _ _ _ h => h) (by rfl) HS.out ?_ ?_
  rotate_left
  · intro wx hSx
    clear hSx
    go_simp
    try (with_reducible rfl)
  simp only [Act.put, List.setIfInBounds_toArray, List.set_cons_zero, List.set_cons_succ]
  refine takeD (i := 10) (some 138) (v := ?_) rfl rfl (by kernel_rfl) (by kernel_rfl) (by kernel_rfl) (fun _ _ _ h => h) (by rfl) HS.out ?_ ?_
  rotate_left
  · intro wx hSx
    obtain ⟨c0, c1, c2, c3, c4⟩ := (HBX.out.below hSx).cells
    clear hSx
    go_simp
    try (with_reducible rfl)
  simp only [Act.put, List.setIfInBounds_toArray, List.set_cons_zero, List.set_cons_succ]
  refine wpAnyH_ready (rs := [5]) (by kernel_rfl) (by simp) ?_
  refine AllReadyH.cons rfl (fun K hK => ?_) AllReadyH.nil
  go_simp
  (with_reducible refine (isRam_none_bus xa xn _).mono ?_)
  rintro e wz ⟨rfl, rfl⟩
  go_simp
  refine hK.out _ _ ?_ (fun hHeld => ?_)
  · exact HS.out
  clear hHeld hK K
  try simp only [Act.put, List.setIfInBounds_toArray, List.set_cons_zero, List.set_cons_succ]
  refine wpAnyH_ready (rs := [11]) (by kernel_rfl) (by simp) ?_
  refine AllReadyH.cons rfl (fun K hK => ?_) AllReadyH.nil
  go_simp
  (with_reducible refine (refIsRam_none_bus xa xn _).mono ?_)
  rintro e wz ⟨rfl, rfl⟩
  go_simp
  refine hK.out _ _ ?_ (fun hHeld => ?_)
  · exact HS.out
  clear hHeld hK K
  try simp only [Act.put, List.setIfInBounds_toArray, List.set_cons_zero, List.set_cons_succ]
  refine takeD (i := 12) (some 140) (v := ?_) rfl rfl (by kernel_rfl) (by kernel_rfl) (by kernel_rfl) (fun _ _ _ h => h) (by rfl) HS.out ?_ ?_
  rotate_left
  · intro wx hSx
    clear hSx
    go_simp
    try (with_reducible rfl)
  simp only [Act.put, List.setIfInBounds_toArray, List.set_cons_zero, List.set_cons_succ]
  refine takeD (i := 13) (some 6) (v := ?_) rfl rfl (by kernel_rfl) (by kernel_rfl) (by kernel_rfl) (fun _ _ _ h => h) (by rfl) HS.out ?_ ?_
  rotate_left
  · intro wx hSx
    clear hSx
    go_simp
    try (with_reducible rfl)
  simp only [Act.put, List.setIfInBounds_toArray, List.set_cons_zero, List.set_cons_succ]
  refine wpAnyH_done (by kernel_rfl) ?_ _
  go_wp2
  go_ret
  exact ⟨rfl, HB0.out.trans (HS.out.mono HB0.out.size)⟩

set_option maxHeartbeats 4000000 in
theorem bothN_2 (w : World) (x : ActV) (ha : In64 x.a) (hv : In64 x.v) (hd : x.d = 2) : Calls Tryz.prog 21 #[.pointer none, .pointer none, actV x] w (NoneE w) := by
  obtain ⟨xd, xa, xn, xv, xi⟩ := x
  simp only at ha hv hd
  subst hd
  have hv0 := hv.1
  have HB0 := Lib.hid ((Below.refl w.heap.size w).alloc (Nat.le_refl _) (.cells #[.int .i64 2, .int .u64 xa, .int .i64 xn, .int .u64 xv, .int .i64 xi] 50))
  have HBX : Hid (BoxA (w.alloc (.cells #[.int .i64 2, .int .u64 xa, .int .i64 xn, .int .u64 xv, .int .i64 xi] 50)) w.heap.size ⟨2, xa, xn, xv, xi⟩) := Lib.hid (heap_alloc_new w _)
  go_enter Tryz.func21, Tryz.ntmps21
  go_upto_region 1 with (fail)
  generalize w.alloc (.cells #[.int .i64 2, .int .u64 xa, .int .i64 xn, .int .u64 xv, .int .i64 xi] 50) = w0 at *
  obtain ⟨q, hq⟩ : ∃ q, q = w.heap.size := ⟨_, rfl⟩
  rw [← hq] at HBX
  rw [show w.heap.size = q from hq.symm]
  have HQ := Lib.hid hq
  clear hq ha hv
  obtain ⟨c0, c1, c2, c3, c4⟩ := HBX.out.cells
  obtain ⟨sO, hsO⟩ : ∃ s, s = strOfNums [] := ⟨_, rfl⟩
  have HSO := Lib.hid hsO
  clear hsO
  have bo : (sO.toList == sO.toList) = true := by simp
  go_wp2_with ((with_reducible refine (feed_none_bus xi (xv % 256) _).mono ?_); rintro e w2 ⟨rfl, rfl⟩)
  refine wp_region_held_drew (S := fun wx => Below w0.heap.size w0 wx) (by kernel_rfl) ((Below.refl _ _).drew) (fun hHeld0 => ?_)
  have HS := Lib.hid hHeld0
  clear hHeld0
  refine takeD (i := 0) (some 74) (v := ?_) rfl rfl (by kernel_rfl) (by kernel_rfl) (by kernel_rfl) (fun _ _ _ h => h) (by rfl) HS.out ?_ ?_
  rotate_left
  · intro wx hSx
    clear hSx
    go_simp
    try (with_reducible rfl)
  simp only [Act.put, List.setIfInBounds_toArray, List.set_cons_zero, List.set_cons_succ]
  refine takeD (i := 1) (some 75) (v := ?_) rfl rfl (by kernel_rfl) (by kernel_rfl) (by kernel_rfl) (fun _ _ _ h => h) (by rfl) HS.out ?_ ?_
  rotate_left
  · intro wx hSx
    clear hSx
    go_simp
    try (with_reducible rfl)
  simp only [Act.put, List.setIfInBounds_toArray, List.set_cons_zero, List.set_cons_succ]
  refine takeD (i := 2) (some 76) (v := ?_) rfl rfl (by kernel_rfl) (by kernel_rfl) (by kernel_rfl) (fun _ _ _ h => h) (by rfl) HS.out ?_ ?_
  rotate_left
  · intro wx hSx
    clear hSx
    go_simp
    try (with_reducible rfl)
  simp only [Act.put, List.setIfInBounds_toArray, List.set_cons_zero, List.set_cons_succ]
  refine takeD (i := 3) (some 77) (v := ?_) rfl rfl (by kernel_rfl) (by kernel_rfl) (by kernel_rfl) (fun _ _ _ h => h) (by rfl) HS.out ?_ ?_
  rotate_left
  · intro wx hSx
    obtain ⟨c0, c1, c2, c3, c4⟩ := (HBX.out.below hSx).cells
    clear hSx
    go_simp
    try (with_reducible rfl)
  simp only [Act.put, List.setIfInBounds_toArray, List.set_cons_zero, List.set_cons_succ]
  refine takeD (i := 4) (some 78) (v := ?_) rfl rfl (by kernel_rfl) (by kernel_rfl) (by kernel_rfl) (fun _ _ _ h => h) (by rfl) HS.out ?_ ?_
  rotate_left
  · intro wx hSx
    clear hSx
    go_simp
    try (with_reducible rfl)
  simp only [Act.put, List.setIfInBounds_toArray, List.set_cons_zero, List.set_cons_succ]
  refine takeD (i := 5) (some 79) (v := ?_) rfl rfl (by kernel_rfl) (by kernel_rfl) (by kernel_rfl) (fun _ _ _ h => h) (by rfl) HS.out ?_ ?_
  rotate_left
  · intro wx hSx
    obtain ⟨c0, c1, c2, c3, c4⟩ := (HBX.out.below hSx).cells
    clear hSx
    go_simp
    try (with_reducible rfl)
  simp only [Act.put, List.setIfInBounds_toArray, List.set_cons_zero, List.set_cons_succ]
  refine takeD (i := 6) (some 80) (v := ?_) rfl rfl (by kernel_rfl) (by kernel_rfl) (by kernel_rfl) (fun _ _ _ h => h) (by rfl) HS.out ?_ ?_
  rotate_left
  · intro wx hSx
    clear hSx
    go_simp
    try (with_reducible rfl)
  simp only [Act.put, List.setIfInBounds_toArray, List.set_cons_zero, List.set_cons_succ]
  refine wpAnyH_ready (rs := [7]) (by kernel_rfl) (by simp) ?_
  refine AllReadyH.cons rfl (fun K hK => ?_) AllReadyH.nil
  go_simp
  (with_reducible refine (refFeed_none_bus xi _ _).mono ?_)
  rintro e wz ⟨rfl, rfl⟩
  go_simp
  refine hK.out _ _ ?_ (fun hHeld => ?_)
  · exact HS.out
  clear hHeld hK K
  try simp only [Act.put, List.setIfInBounds_toArray, List.set_cons_zero, List.set_cons_succ]
  refine takeD (i := 8) (some 82) (v := ?_) rfl rfl (by kernel_rfl) (by kernel_rfl) (by kernel_rfl) (fun _ _ _ h => h) (by rfl) HS.out ?_ ?_
  rotate_left
  · intro wx hSx
    clear hSx
    go_simp
    try (with_reducible rfl)
  simp only [Act.put, List.setIfInBounds_toArray, List.set_cons_zero, List.set_cons_succ]
  refine takeD (i := 9) (some 83) (v := ?_) rfl rfl (by kernel_rfl) (by kernel_rfl) (by kernel_rfl) (fun _ _ _ h => h) (by rfl) HS.out ?_ ?_
  rotate_left
  · intro wx hSx
    clear hSx
    go_simp
    try (with_reducible rfl)
  simp only [Act.put, List.setIfInBounds_toArray, List.set_cons_zero, List.set_cons_succ]
  refine takeD (i := 10) (some 84) (v := ?_) rfl rfl (by kernel_rfl) (by kernel_rfl) (by kernel_rfl) (fun _ _ _ h => h) (by rfl) HS.out ?_ ?_
  rotate_left
  · intro wx hSx
    clear hSx
    go_simp
    try (with_reducible rfl)
  simp only [Act.put, List.setIfInBounds_toArray, List.set_cons_zero, List.set_cons_succ]
  refine takeD (i := 11) (some 85) (v := ?_) rfl rfl (by kernel_rfl) (by kernel_rfl) (by kernel_rfl) (fun _ _ _ h => h) (by rfl) HS.out ?_ ?_
  rotate_left
  · intro wx hSx
    clear hSx
    go_simp
    try (with_reducible rfl)
  simp only [Act.put, List.setIfInBounds_toArray, List.set_cons_zero, List.set_cons_succ]
  refine takeD (i := 12) (some 86) (v := ?_) rfl rfl (by kernel_rfl) (by kernel_rfl) (by kernel_rfl) (fun _ _ _ h => h) (by rfl) HS.out ?_ ?_
  rotate_left
  · intro wx hSx
    obtain ⟨c0, c1, c2, c3, c4⟩ := (HBX.out.below hSx).cells
    clear hSx
    go_simp
    try (with_reducible rfl)
  simp only [Act.put, List.setIfInBounds_toArray, List.set_cons_zero, List.set_cons_succ]
  refine takeD (i := 15) (some 89) (v := ?_) rfl rfl (by kernel_rfl) (by kernel_rfl) (by kernel_rfl) (fun _ _ _ h => h) (by rfl) HS.out ?_ ?_
  rotate_left
  · intro wx hSx
    clear hSx
    go_simp
    try (with_reducible rfl)
  simp only [Act.put, List.setIfInBounds_toArray, List.set_cons_zero, List.set_cons_succ]
  refine takeD (i := 16) (some 90) (v := ?_) rfl rfl (by kernel_rfl) (by kernel_rfl) (by kernel_rfl) (fun _ _ _ h => h) (by rfl) HS.out ?_ ?_
  rotate_left
  · intro wx hSx
    clear hSx
    go_simp
    try (with_reducible rfl)
  simp only [Act.put, List.setIfInBounds_toArray, List.set_cons_zero, List.set_cons_succ]
  refine takeD (i := 17) (some 91) (v := ?_) rfl rfl (by kernel_rfl) (by kernel_rfl) (by kernel_rfl) (fun _ _ _ h => h) (by rfl) HS.out ?_ ?_
  rotate_left
  · intro wx hSx
    obtain ⟨c0, c1, c2, c3, c4⟩ := (HBX.out.below hSx).cells
    clear hSx
    go_simp
    try (with_reducible rfl)
  simp only [Act.put, List.setIfInBounds_toArray, List.set_cons_zero, List.set_cons_succ]
  refine wpAnyH_ready (rs := [13]) (by kernel_rfl) (by simp) ?_
  refine AllReadyH.cons rfl (fun K hK => ?_) AllReadyH.nil
  go_simp
  (with_reducible refine (out_none_bus xi _).mono ?_)
  rintro e w5 ⟨a5, k5, rfl, hb5, hr5⟩
  have HB5 : Hid (Below w0.heap.size w0 w5) := Lib.hid (HS.out.trans (hb5.mono HS.out.size))
  have HC5 : Hid (∀ wx, Below w5.heap.size w5 wx → (convert 40 9 (.slice a5 0 k5)).run Tryz.prog wx = .ok (.string sO) wx) := Lib.hid fun wx hx => by rw [HSO.out]; exact U6.conv_row (hr5.below hx) (by decide)
  have HX5 := Lib.hid hb5
  clear hb5 hr5
  go_simp
  refine hK.out _ _ ?_ (fun hHeld => ?_)
  · exact HS.out.trans (HX5.out.mono HS.out.size)
  clear hHeld hK K
  try simp only [Act.put, List.setIfInBounds_toArray, List.set_cons_zero, List.set_cons_succ]
  refine wpAnyH_more (T := fun wx => Below w5.heap.size w5 wx) (fun wx hx => HB5.out.trans (hx.mono HB5.out.size)) _ _ _ _ ?_
  replace HS : Hid (Below w5.heap.size w5 w5) := Lib.hid (Below.refl _ _)
  refine takeD (i := 14) (some 88) (v := ?_) rfl rfl (by kernel_rfl) (by kernel_rfl) (by kernel_rfl) (fun _ _ _ h => h) (by rfl) HS.out ?_ ?_
  rotate_left
  · intro wx hSx
    have hcv := HC5.out wx hSx
    clear hSx
    go_simp
    try (with_reducible rfl)
  simp only [Act.put, List.setIfInBounds_toArray, List.set_cons_zero, List.set_cons_succ]
  refine wpAnyH_ready (rs := [18]) (by kernel_rfl) (by simp) ?_
  refine AllReadyH.cons rfl (fun K hK => ?_) AllReadyH.nil
  go_simp
  (with_reducible refine (refOut_none_bus xi _).mono ?_)
  rintro e w7 ⟨a7, k7, rfl, hb5, hr5⟩
  have HB7 : Hid (Below w0.heap.size w0 w7) := Lib.hid ((HB5.out.trans (HS.out.mono HB5.out.size)).trans (hb5.mono (HB5.out.trans (HS.out.mono HB5.out.size)).size))
  have HC7 : Hid (∀ wx, Below w7.heap.size w7 wx → (convert 40 9 (.slice a7 0 k7)).run Tryz.prog wx = .ok (.string sO) wx) := Lib.hid fun wx hx => by rw [HSO.out]; exact U6.conv_row (hr5.below hx) (by decide)
  have HX7 := Lib.hid hb5
  clear hb5 hr5
  go_simp
  refine hK.out _ _ ?_ (fun hHeld => ?_)
  · exact HS.out.trans (HX7.out.mono HS.out.size)
  clear hHeld hK K
  try simp only [Act.put, List.setIfInBounds_toArray, List.set_cons_zero, List.set_cons_succ]
  refine wpAnyH_more (T := fun wx => Below w7.heap.size w7 wx) (fun wx hx => HX7.out.trans (hx.mono HX7.out.size)) _ _ _ _ ?_
  replace HS : Hid (Below w7.heap.size w7 w7) := Lib.hid (Below.refl _ _)
  refine takeD (i := 19) (some 93) (v := ?_) rfl rfl (by kernel_rfl) (by kernel_rfl) (by kernel_rfl) (fun _ _ _ h => h) (by rfl) HS.out ?_ ?_
  rotate_left
  · intro wx hSx
    have hcv := HC7.out wx hSx
    clear hSx
    go_simp
    try (with_reducible rfl)
  simp only [Act.put, List.setIfInBounds_toArray, List.set_cons_zero, List.set_cons_succ]
  refine takeD (i := 20) (some 94) (v := ?_) rfl rfl (by kernel_rfl) (by kernel_rfl) (by kernel_rfl) (fun _ _ _ h => h) (by rfl) HS.out ?_ ?_
  rotate_left
  · intro wx hSx
    clear hSx
    go_simp
    try (with_reducible rfl)
  simp only [Act.put, List.setIfInBounds_toArray, List.set_cons_zero, List.set_cons_succ]
  refine takeD (i := 21) (some 95) (v := ?_) rfl rfl (by kernel_rfl) (by kernel_rfl) (by kernel_rfl) (fun _ _ _ h => h) (by rfl) HS.out ?_ ?_
  rotate_left
  · intro wx hSx
    clear hSx
    go_simp
    try (with_reducible rfl)
  simp only [Act.put, List.setIfInBounds_toArray, List.set_cons_zero, List.set_cons_succ]
  refine takeD (i := 22) (some 6) (v := ?_) rfl rfl (by kernel_rfl) (by kernel_rfl) (by kernel_rfl) (fun _ _ _ h => h) (by rfl) HS.out ?_ ?_
  rotate_left
  · intro wx hSx
    clear hSx
    go_simp
    try (with_reducible rfl)
  simp only [Act.put, List.setIfInBounds_toArray, List.set_cons_zero, List.set_cons_succ]
  refine wpAnyH_done (by kernel_rfl) ?_ _
  go_wp2
  go_ret
  exact ⟨rfl, HB0.out.trans (HB7.out.mono HB0.out.size)⟩

set_option maxHeartbeats 4000000 in
theorem bothN_x (w : World) (x : ActV) (n0 : ¬ x.d = 0) (n1 : ¬ x.d = 1) (n2 : ¬ x.d = 2) (n3 : ¬ x.d = 3) (n4 : ¬ x.d = 4) (n6 : ¬ x.d = 6) (n7 : ¬ x.d = 7) : Calls Tryz.prog 21 #[.pointer none, .pointer none, actV x] w (NoneE w) := by
  obtain ⟨xd, xa, xn, xv, xi⟩ := x
  simp only at n0 n1 n2 n3 n4 n6 n7
  have e0 : (xd == 0) = false := beq_eq_false_iff_ne.2 n0
  have e1 : (xd == 1) = false := beq_eq_false_iff_ne.2 n1
  have e2 : (xd == 2) = false := beq_eq_false_iff_ne.2 n2
  have e3 : (xd == 3) = false := beq_eq_false_iff_ne.2 n3
  have e4 : (xd == 4) = false := beq_eq_false_iff_ne.2 n4
  have e6 : (xd == 6) = false := beq_eq_false_iff_ne.2 n6
  have e7 : (xd == 7) = false := beq_eq_false_iff_ne.2 n7
  clear n0 n1 n2 n3 n4 n6 n7
  go_enter Tryz.func21, Tryz.ntmps21
  go_wp2
  go_ret
  exact ⟨rfl, (Below.refl _ _).alloc (Nat.le_refl _) _⟩
theorem both_none (w : World) (x : ActV) (ha : In64 x.a) (hv : In64 x.v) : Calls Tryz.prog 21 #[.pointer none, .pointer none, actV x] w (NoneE w) := by
  by_cases n0 : x.d = 0
  · exact bothN_0 w x ha hv n0
  by_cases n1 : x.d = 1
  · exact bothN_1 w x ha hv n1
  by_cases n2 : x.d = 2
  · exact bothN_2 w x ha hv n2
  by_cases n3 : x.d = 3
  · exact bothN_3 w x ha hv n3
  by_cases n4 : x.d = 4
  · exact bothN_4 w x ha hv n4
  by_cases n6 : x.d = 6
  · exact bothN_6 w x ha hv n6
  by_cases n7 : x.d = 7
  · exact bothN_7 w x ha hv n7
  exact bothN_x w x n0 n1 n2 n3 n4 n6 n7

end
end Go.Proofs.YtbcnkhfpogglmaaGreatDoor

namespace Go.Proofs.YtbcnkhfpogglmaaGreatDoor.P5
open Go.RowKit M3
set_option linter.unusedVariables false
set_option maxRecDepth 100000

section
variable {P : Program} (w : World)
/-- '==' of two structs, field by field. -/
theorem run_fields_nil (d : Nat) (xs ys : Array Value) : (Op.eqFields d xs ys []).run P w = .ok true w := rfl
theorem run_fields_cons {d : Nat} {xs ys : Array Value} {f : Field} {fs : List Field} {x y : Value} {r s : Bool} (hn : f.name ≠ "_") (h1 : (part f.type xs f.offset).run P w = .ok x w) (h2 : (part f.type ys f.offset).run P w = .ok y w)
    (h3 : (Op.equalIn d f.type x y).run P w = .ok r w) (h4 : (Op.eqFields d xs ys fs).run P w = .ok s w) : (Op.eqFields d xs ys (f :: fs)).run P w = .ok (r && s) w := by
  unfold Op.eqFields
  rw [if_pos hn]
  simp only [Sem.run_bind, h1, h2, h3, Result.andThen_ok]
  cases r
  · simp
  · simp [h4]
end

def eqQ (t u : PS) : Bool :=
  (bits32 t.up == bits32 u.up) && ((bits32 t.pend == bits32 u.pend) && ((bits32 t.busy == bits32 u.busy) && (((List.range 32).all fun s => t.prio s == u.prio s) && (((List.range 2).all fun c => bits32 (fun s => t.on s c) == bits32 (fun s => u.on s c)) && (((List.range 2).all fun c => t.floor c == u.floor c) && true)))))
def eqS (t u : PS) (s : Nat) : Bool := (t.prio s == u.prio s) && ((t.up s == u.up s) && ((t.pend s == u.pend s) && ((t.busy s == u.busy s) && (((List.range 2).all fun c => t.on s c == u.on s c) && true))))
def eqR (t u : PS) : Bool := ((List.range 32).all fun s => eqS t u s) && (((List.range 2).all fun c => t.floor c == u.floor c) && true)
end Go.Proofs.YtbcnkhfpogglmaaGreatDoor.P5

namespace Go.Proofs.YtbcnkhfpogglmaaGreatDoor.U6
open Go.RowKit
set_option linter.unusedVariables false
set_option maxRecDepth 100000

/-- What the document's Same meets on its way: two strings of each, marks, registers. -/
structure Meets (w : World) (a b : Nat) (t u : US) (s1 s2 s3 s4 : ByteArray) (vi vo ui uo : Value) : Prop where
  e1 : ∀ n, (convert 40 9 vi).run Tryz.prog (w.drewN n) = .ok (.string s1) (w.drewN n)
  e2 : ∀ n, (convert 40 9 ui).run Tryz.prog (w.drewN n) = .ok (.string s2) (w.drewN n)
  e3 : ∀ n, (convert 40 9 vo).run Tryz.prog (w.drewN n) = .ok (.string s3) (w.drewN n)
  e4 : ∀ n, (convert 40 9 uo).run Tryz.prog (w.drewN n) = .ok (.string s4) (w.drewN n)
  a_lost : w.cell? ⟨a, 9, none⟩ = some (.bool t.lost)
  b_lost : w.cell? ⟨b, 9, none⟩ = some (.bool u.lost)
  a_sent : w.cell? ⟨a, 10, none⟩ = some (.bool t.sent)
  b_sent : w.cell? ⟨b, 10, none⟩ = some (.bool u.sent)
  a_ier : w.cell? ⟨a, 2, none⟩ = some (.int .u8 t.ier)
  b_ier : w.cell? ⟨b, 2, none⟩ = some (.int .u8 u.ier)
  a_fcr : w.cell? ⟨a, 3, none⟩ = some (.int .u8 t.fcr)
  b_fcr : w.cell? ⟨b, 3, none⟩ = some (.int .u8 u.fcr)
  a_lcr : w.cell? ⟨a, 4, none⟩ = some (.int .u8 t.lcr)
  b_lcr : w.cell? ⟨b, 4, none⟩ = some (.int .u8 u.lcr)
  a_mcr : w.cell? ⟨a, 5, none⟩ = some (.int .u8 t.mcr)
  b_mcr : w.cell? ⟨b, 5, none⟩ = some (.int .u8 u.mcr)
  a_scr : w.cell? ⟨a, 6, none⟩ = some (.int .u8 t.scr)
  b_scr : w.cell? ⟨b, 6, none⟩ = some (.int .u8 u.scr)
  a_dl : w.cell? ⟨a, 7, none⟩ = some (.int .u8 t.dl)
  b_dl : w.cell? ⟨b, 7, none⟩ = some (.int .u8 u.dl)
  a_dm : w.cell? ⟨a, 8, none⟩ = some (.int .u8 t.dm)
  b_dm : w.cell? ⟨b, 8, none⟩ = some (.int .u8 u.dm)
  a0 : w.cell? ⟨a, 0, none⟩ = some vi
  a1 : w.cell? ⟨a, 1, none⟩ = some vo
  b0 : w.cell? ⟨b, 0, none⟩ = some ui
  b1 : w.cell? ⟨b, 1, none⟩ = some uo
  c1 : (s1.toList == s2.toList) = decide (t.inn = u.inn)
  c2 : (s3.toList == s4.toList) = decide (t.out = u.out)
theorem Meets.drewN {w : World} {a b : Nat} {t u : US} {s1 s2 s3 s4 : ByteArray} {vi vo ui uo : Value} (h : Meets w a b t u s1 s2 s3 s4 vi vo ui uo) (k : Nat) : Meets (w.drewN k) a b t u s1 s2 s3 s4 vi vo ui uo := by
  obtain ⟨e1, e2, e3, e4, x1, x2, x3, x4, x5, x6, x7, x8, x9, x10, x11, x12, x13, x14, x15, x16, x17, x18, a0, a1, b0, b1, c1, c2⟩ := h
  exact ⟨fun n => by rw [World.drewN_drewN]; exact e1 _, fun n => by rw [World.drewN_drewN]; exact e2 _, fun n => by rw [World.drewN_drewN]; exact e3 _, fun n => by rw [World.drewN_drewN]; exact e4 _, x1, x2, x3, x4, x5, x6, x7, x8, x9, x10, x11, x12, x13, x14, x15, x16, x17, x18, a0, a1, b0, b1, c1, c2⟩
end Go.Proofs.YtbcnkhfpogglmaaGreatDoor.U6

namespace Go.Proofs.YtbcnkhfpogglmaaGreatDoor
open Go.RowKit
set_option linter.unusedVariables false
set_option maxRecDepth 100000

/-- The law's own pair: one state, in blocks that are the law's. -/
def OwnT (w0 w : World) (b d N : Nat) (st : BS) : Prop := Below w0.heap.size w0 w ∧ ∃ F, Two w F b d N st st ∧ ∀ i, F i → w0.heap.size ≤ i
theorem NewF.bel {w0 w w' : World} {F F' : Nat → Prop} (h : Below w0.heap.size w0 w) (k : NewF w w' F F') (hF : ∀ i, F i → w0.heap.size ≤ i) : Below w0.heap.size w0 w' ∧ ∀ i, F' i → w0.heap.size ≤ i :=
  ⟨Below.thenOnly h k.1 hF h.size, fun i hi => by
    rcases k.2 i hi with a | a
    · exact hF i a
    · have := h.size; omega⟩
section
variable {w0 w w' : World} {b d N : Nat} {st : BS}
theorem OwnT.below (h : OwnT w0 w b d N st) (o : Below w.heap.size w w') : OwnT w0 w' b d N st := by
  obtain ⟨hb, F, ht, hF⟩ := h
  exact ⟨hb.trans (o.mono hb.size), F, ht.below o, hF⟩
theorem OwnT.both (h : OwnT w0 w b d N st) (hN : N < 900000) (x : ActV) (ha : In64 x.a) (hn : In63 x.n) (hv : In64 x.v) (hi : In63 x.i) : Calls Tryz.prog 21 #[.pointer (some ⟨b, 0, none⟩), .pointer (some ⟨d, 0, none⟩), actV x] w fun e w' => e = .returned (.bool true) ∧ ∃ st', OwnT w0 w' b d (N + 8) st' := by
  obtain ⟨hb, F, ht, hF⟩ := h
  refine (both_any ht hN x ha hn hv hi).mono fun e w' k => ?_
  obtain ⟨he, F', st', hnf, ht'⟩ := k
  have := NewF.bel hb hnf hF
  exact ⟨he, st', this.1, F', ht', this.2⟩
theorem OwnT.lines (h : OwnT w0 w b d N st) : Calls Tryz.prog 12 #[.pointer (some ⟨b, 0, none⟩)] w (LinesE w (linesV st)) := by
  obtain ⟨hb, F, ht, hF⟩ := h
  exact tLines ht
theorem OwnT.rlines (h : OwnT w0 w b d N st) : Calls Tryz.prog 22 #[.pointer (some ⟨d, 0, none⟩)] w (LinesE w (linesV st)) := by
  obtain ⟨hb, F, ht, hF⟩ := h
  exact rLines ht
theorem OwnT.out (h : OwnT w0 w b d N st) (i : Int) : Calls Tryz.prog 17 #[.pointer (some ⟨b, 0, none⟩), .int .i64 i] w (OutE w (busOt st.us i)) := by
  obtain ⟨hb, F, ht, hF⟩ := h
  exact tOut ht i
theorem OwnT.rout (h : OwnT w0 w b d N st) (i : Int) : Calls Tryz.prog 23 #[.pointer (some ⟨d, 0, none⟩), .int .i64 i] w (OutE w (busOt st.us i)) := by
  obtain ⟨hb, F, ht, hF⟩ := h
  exact rOut ht i
theorem OwnT.len (h : OwnT w0 w b d N st) (i : Int) : (busOt st.us i).length ≤ 70000 := by
  obtain ⟨hb, F, ht, hF⟩ := h
  exact out_len ht i
/-- A twin's pair, and the old one, apart. -/
def TrioT (w0 w : World) (b d N : Nat) (st : BS) (bo : Nat) (so : BS) : Prop :=
  Below w0.heap.size w0 w ∧ ∃ F g K vp ul, Two w F b d N st st ∧ BusP w bo K g vp ul so ∧ (∀ i, ¬ K i = 0 → ¬ F i) ∧ ∀ i, (F i ∨ ¬ K i = 0) → w0.heap.size ≤ i
theorem OwnT.twin (h : OwnT w0 w b d N st) : Calls Tryz.prog 18 #[.pointer (some ⟨b, 0, none⟩)] w fun e w' => ∃ b2, e = .returned (.pointer (some ⟨b2, 0, none⟩)) ∧ TrioT w0 w' b2 d N st b st := by
  obtain ⟨hb, F, ht, hF⟩ := h
  obtain ⟨g, K, vp, ul, h, L, vq, um, P, R, ap, tb, cov, lt⟩ := ht
  refine (busTwin_any P).mono fun e w' k => ?_
  obtain ⟨o, b2, K2, g2, vp2, ul2, he, hk, P2⟩ := k
  refine ⟨b2, he, hb.trans (o.mono hb.size), fun i => ¬ K2 i = 0 ∨ ¬ L i = 0, g, K, vp, ul, ⟨g2, K2, vp2, ul2, h, L, vq, um, P2, R.below o, fun i hi => ?_, fun i hi hx => ?_, fun i hi => hi, fun i hi => ?_⟩, P.below o, fun i hi hx => ?_, fun i hi => ?_⟩
  · by_cases z : L i = 0
    · exact z
    · have := R.lt i z; have := hk i hi; omega
  · rcases hx with a | a
    · exact a (P2.kt i hi)
    · exact tb i hi (cov i (.inr a))
  · rcases hi with a | a
    · exact P2.lt i a
    · exact Nat.lt_of_lt_of_le (R.lt i a) o.size
  · rcases hx with a | a
    · have := P.lt i hi; have := hk i a; omega
    · exact a (ap i hi)
  · rcases hi with (a | a) | a
    · exact Nat.le_trans hb.size (hk i a)
    · exact hF i (cov i (.inr a))
    · exact hF i (cov i (.inl a))
theorem TrioT.turn {bo : Nat} {so so' : BS} (h : TrioT w0 w b d N st bo so) {r : Value} {e : Ending} (hc : ∀ K g vp ul, BusP w bo K g vp ul so → BusEnd w bo K g vp ul r so' e w') : e = .returned r ∧ TrioT w0 w' b d N st bo so' := by
  obtain ⟨hb, F, g, K, vp, ul, ht, P, dj, hF⟩ := h
  obtain ⟨he, o, K', hg, P'⟩ := hc K g vp ul P
  refine ⟨he, Below.thenOnly hb o (fun i hi => hF i (.inr hi)) hb.size, F, g, K', vp, ul, ht.keeps o fun i hi hk => ?_, P', fun i hi hx => ?_, fun i hi => ?_⟩
  · rcases hi with a | a
    · exact dj i hk a
    · exact hk (P.kt i a)
  · by_cases c : i < w.heap.size
    · rw [hg i c] at hi; exact dj i hi hx
    · have := ht.lt i hx; omega
  · rcases hi with a | a
    · exact hF i (.inl a)
    · by_cases c : i < w.heap.size
      · rw [hg i c] at a; exact hF i (.inr a)
      · have := hb.size; omega
theorem TrioT.call {bo : Nat} {so so' : BS} (h : TrioT w0 w b d N st bo so) {r : Value} {f : FuncId} {args : Array Value} (hc : ∀ K g vp ul, BusP w bo K g vp ul so → Calls Tryz.prog f args w (BusEnd w bo K g vp ul r so')) : Calls Tryz.prog f args w fun e w' => e = .returned r ∧ TrioT w0 w' b d N st bo so' := by
  have h' := h
  obtain ⟨hb, F, g, K, vp, ul, ht, P, dj, hF⟩ := h
  refine (hc K g vp ul P).mono fun e w' k => ?_
  obtain ⟨he, o, K', hg, P'⟩ := k
  refine ⟨he, Below.thenOnly hb o (fun i hi => hF i (.inr hi)) hb.size, F, g, K', vp, ul, ht.keeps o fun i hi hk => ?_, P', fun i hi hx => ?_, fun i hi => ?_⟩
  · rcases hi with a | a
    · exact dj i hk a
    · exact hk (P.kt i a)
  · by_cases c : i < w.heap.size
    · rw [hg i c] at hi; exact dj i hi hx
    · have := ht.lt i hx; omega
  · rcases hi with a | a
    · exact hF i (.inl a)
    · by_cases c : i < w.heap.size
      · rw [hg i c] at a; exact hF i (.inr a)
      · have := hb.size; omega
theorem TrioT.write {bo : Nat} {so : BS} (h : TrioT w0 w b d N st bo so) (a n v : Int) (ha : In64 a) (hv : In64 v) : Calls Tryz.prog 9 #[.pointer (some ⟨bo, 0, none⟩), .int .u64 a, .int .i64 n, .int .u64 v] w fun e w' => ∃ r so', e = .returned r ∧ TrioT w0 w' b d N st bo so' :=
  (h.call fun K g vp ul P => busWrite_any P a n v ha hv).mono fun e w' ⟨he, k⟩ => ⟨_, _, he, k⟩
theorem TrioT.level {bo : Nat} {so : BS} (h : TrioT w0 w b d N st bo so) (s : Int) (u : Bool) (hs : In63 s) : Calls Tryz.prog 14 #[.pointer (some ⟨bo, 0, none⟩), .int .i64 s, .bool u] w fun e w' => ∃ r so', e = .returned r ∧ TrioT w0 w' b d N st bo so' :=
  (h.call fun K g vp ul P => busLevel_any P s u hs).mono fun e w' ⟨he, k⟩ => ⟨_, _, he, k⟩
theorem TrioT.tick {bo : Nat} {so : BS} (h : TrioT w0 w b d N st bo so) (n : Int) (hn : In64 n) : Calls Tryz.prog 11 #[.pointer (some ⟨bo, 0, none⟩), .int .u64 n] w fun e w' => ∃ r so', e = .returned r ∧ TrioT w0 w' b d N st bo so' := by
  have h' := h
  obtain ⟨hb, F, g, K, vp, ul, ht, P, dj, hF⟩ := h
  refine (busTick_any P n hn).mono fun e w' k => ?_
  obtain ⟨u, he, o, K', hg, P'⟩ := k
  refine ⟨u, _, he, Below.thenOnly hb o (fun i hi => hF i (.inr hi)) hb.size, F, g, K', vp, ul, ht.keeps o fun i hi hk => ?_, P', fun i hi hx => ?_, fun i hi => ?_⟩
  · rcases hi with a | a
    · exact dj i hk a
    · exact hk (P.kt i a)
  · by_cases c : i < w.heap.size
    · rw [hg i c] at hi; exact dj i hi hx
    · have := ht.lt i hx; omega
  · rcases hi with a | a
    · exact hF i (.inl a)
    · by_cases c : i < w.heap.size
      · rw [hg i c] at a; exact hF i (.inr a)
      · have := hb.size; omega
theorem TrioT.bel {bo : Nat} {so : BS} (h : TrioT w0 w b d N st bo so) : Below w0.heap.size w0 w := h.1
theorem TrioT.own {bo : Nat} {so : BS} (h : TrioT w0 w b d N st bo so) : OwnT w0 w b d N st := by
  obtain ⟨hb, F, g, K, vp, ul, ht, P, dj, hF⟩ := h
  exact ⟨hb, F, ht, fun i hi => hF i (.inl hi)⟩
/-- The law's pair, made. -/
theorem OwnT.made {w1 w2 : World} {b d : Nat} {K L : Nat → Nat} {g h : Nat} {vp vq : Value} {ul um : List Nat} {st : BS} (hb : Below w0.heap.size w0 w) (o1 : Below w.heap.size w w1) (P : BusP w1 b K g vp ul st) (hk : ∀ i, ¬ K i = 0 → w.heap.size ≤ i) (o2 : Below w1.heap.size w1 w2) (R : BusR w2 d L h vq um 0 st) (hl : ∀ i, ¬ L i = 0 → w1.heap.size ≤ i) (tabs : Tabs w0) : OwnT w0 w2 b d 0 st := by
  refine ⟨(hb.trans (o1.mono hb.size)).trans (o2.mono (Nat.le_trans hb.size o1.size)), fun i => ¬ K i = 0 ∨ ¬ L i = 0, ⟨g, K, vp, ul, h, L, vq, um, P.below o2, R, fun i hi => ?_, fun i hi hx => ?_, fun i hi => hi, fun i hi => ?_⟩, fun i hi => ?_⟩
  · by_cases z : L i = 0
    · exact z
    · have := P.lt i hi; have := hl i z; omega
  · rcases hx with a | a
    · exact a (P.kt i hi)
    · have := tabs.lt hi; have := hl i a; have := hb.size; have := o1.size; omega
  · rcases hi with a | a
    · exact Nat.lt_of_lt_of_le (P.lt i a) o2.size
    · exact R.lt i a
  · have := hb.size; have := o1.size
    rcases hi with a | a
    · have := hk i a; omega
    · have := hl i a; omega
end
/-- '!=' of Lines that are alike. -/
theorem eq_lines (a b c d : Bool) (g t : Int) (w : World) : (Op.equalIn 10000 33 (.agg #[.bool a, .bool b, .bool c, .bool d, .int .u64 g, .int .u64 t]) (.agg #[.bool a, .bool b, .bool c, .bool d, .int .u64 g, .int .u64 t])).run Tryz.prog w = .ok true w := by
  rw [run_equalIn_struct w 9999 33 _ _ (by kernel_rfl) (by kernel_rfl)]
  simp only [Program.fieldsOf, Tryz.underlying33]
  have aU : ∀ w, (isAgg 26).run Tryz.prog w = .ok false w := fun _ => by kernel_rfl
  have aB : ∀ w, (isAgg 4).run Tryz.prog w = .ok false w := fun _ => by kernel_rfl
  have e : true = ((a == a) && ((b == b) && ((c == c) && ((d == d) && ((g == g) && ((t == t) && true)))))) := by simp
  rw [e]
  refine P5.run_fields_cons w (by decide) (x := .bool a) (y := .bool a) (by simp [part, aB w]) (by simp [part, aB w]) (run_equalIn_bool' w 9998 _ _ _ Tryz.underlying4) ?_
  refine P5.run_fields_cons w (by decide) (x := .bool b) (y := .bool b) (by simp [part, aB w]) (by simp [part, aB w]) (run_equalIn_bool' w 9998 _ _ _ Tryz.underlying4) ?_
  refine P5.run_fields_cons w (by decide) (x := .bool c) (y := .bool c) (by simp [part, aB w]) (by simp [part, aB w]) (run_equalIn_bool' w 9998 _ _ _ Tryz.underlying4) ?_
  refine P5.run_fields_cons w (by decide) (x := .bool d) (y := .bool d) (by simp [part, aB w]) (by simp [part, aB w]) (run_equalIn_bool' w 9998 _ _ _ Tryz.underlying4) ?_
  refine P5.run_fields_cons w (by decide) (x := .int .u64 g) (y := .int .u64 g) (by simp [part, aU w]) (by simp [part, aU w]) (run_equalIn_int w 9998 _ .u64 .u64 _ _ Tryz.underlying26) ?_
  refine P5.run_fields_cons w (by decide) (x := .int .u64 t) (y := .int .u64 t) (by simp [part, aU w]) (by simp [part, aU w]) (run_equalIn_int w 9998 _ .u64 .u64 _ _ Tryz.underlying26) ?_
  exact P5.run_fields_nil w _ _ _
theorem neq_lines (a b c d : Bool) (g t : Int) (w : World) : (binOp .neq 33 (.agg #[.bool a, .bool b, .bool c, .bool d, .int .u64 g, .int .u64 t]) (.agg #[.bool a, .bool b, .bool c, .bool d, .int .u64 g, .int .u64 t])).run Tryz.prog w = .ok (.bool false) w := by
  rw [run_neq_struct, eq_lines]; rfl
end Go.Proofs.YtbcnkhfpogglmaaGreatDoor

namespace Go.Proofs.YtbcnkhfpogglmaaGreatDoor
open Go.RowKit
set_option linter.unusedVariables false
set_option maxRecDepth 100000

/-- A bus that the law made itself: it stands in the world w, nothing that was there when the law began has turned. -/
def OwnB (w0 : World) (b g : Nat) (vp : Value) (ul : List Nat) (st : BS) (w : World) : Prop := Below w0.heap.size w0 w ∧ ∃ K, (∀ i, ¬ K i = 0 → w0.heap.size ≤ i) ∧ BusP w b K g vp ul st
section
variable {w0 w w' : World} {b g : Nat} {vp : Value} {ul : List Nat} {st : BS}
theorem OwnB.out (h : OwnB w0 b g vp ul st w) : Below w0.heap.size w0 w := h.1
theorem OwnB.after {K : Nat → Nat} {r : Value} {st' : BS} {e : Ending} (hb : Below w0.heap.size w0 w) (hk : ∀ i, ¬ K i = 0 → w0.heap.size ≤ i) (hp : BusP w b K g vp ul st) (k : BusEnd w b K g vp ul r st' e w') : OwnB w0 b g vp ul st' w' := by
  obtain ⟨_, o, K', hg, hp'⟩ := k
  refine ⟨hb.trans (o.below (fun i hi => hk i hi) hb.size), K', fun i hi => ?_, hp'⟩
  by_cases c : i < w.heap.size
  · exact hk i (by rw [← hg i c]; exact hi)
  · have := hb.size; omega
def EndB (w0 : World) (b g : Nat) (vp : Value) (ul : List Nat) (r : Value) (st' : BS) (e : Ending) (w' : World) : Prop := e = .returned r ∧ OwnB w0 b g vp ul st' w'
theorem ownWrite (h : OwnB w0 b g vp ul st w) (a n v : Int) (ha : In64 a) (hv : In64 v) : Calls Tryz.prog 9 #[.pointer (some ⟨b, 0, none⟩), .int .u64 a, .int .i64 n, .int .u64 v] w (EndB w0 b g vp ul (.bool (busWr st a n v).1) (busWr st a n v).2) := by
  obtain ⟨hb, K, hk, hp⟩ := h
  exact (busWrite_any hp a n v ha hv).mono fun e w' k => ⟨k.1, OwnB.after hb hk hp k⟩
theorem ownRead (h : OwnB w0 b g vp ul st w) (a n : Int) (ha : In64 a) : Calls Tryz.prog 8 #[.pointer (some ⟨b, 0, none⟩), .int .u64 a, .int .i64 n] w (EndB w0 b g vp ul (.tuple #[.int .u64 (busRd st a n).1, .bool (busRd st a n).2.1]) (busRd st a n).2.2) := by
  obtain ⟨hb, K, hk, hp⟩ := h
  exact (busRead_any hp a n ha).mono fun e w' k => ⟨k.1, OwnB.after hb hk hp k⟩
theorem ownFeed (h : OwnB w0 b g vp ul st w) (i x : Int) (hx : 0 ≤ x ∧ x < 256) : Calls Tryz.prog 13 #[.pointer (some ⟨b, 0, none⟩), .int .i64 i, .int .u8 x] w (EndB w0 b g vp ul (.bool (busFd st i x).1) (busFd st i x).2) := by
  obtain ⟨hb, K, hk, hp⟩ := h
  exact (busFeed_any hp i x hx).mono fun e w' k => ⟨k.1, OwnB.after hb hk hp k⟩
/-- New, where it makes one. -/
theorem ownNew (w0 w : World) (hb : Below w0.heap.size w0 w) (tabs : Tabs w) (size n : Int) (hs : In64 size) (hok : busOk size n = true) : Calls Tryz.prog 7 #[.int .u64 size, .int .i64 n] w fun e w' => ∃ b g vp ul, e = .returned (.tuple #[.pointer (some ⟨b, 0, none⟩), .int .i64 0]) ∧ OwnB w0 b g vp ul (bs0 size n.toNat) w' :=
  (busNew_any w tabs size n hs).mono fun e w' k => by
    obtain ⟨h1, h2 | ⟨_, b, K, g, vp, ul, he, hk, hp⟩⟩ := k
    · rw [hok] at h2; cases h2.1
    · exact ⟨b, g, vp, ul, he, hb.trans (h1.mono hb.size), K, fun i hi => Nat.le_trans hb.size (hk i hi), hp⟩
end

/-! ### awake -/
def aw1 : BS := (busWr (bs0 4096 1) 2147487736 8 7).2
def aw2 : BS := (busWr aw1 268435457 1 1).2
def aw3 : BS := (busFd aw2 0 65).2
def aw4 : BS := (busWr aw3 201326632 4 1).2
def aw5 : BS := (busWr aw4 201334912 4 1024).2
def aw6 : BS := (busRd aw5 2147487736 8).2.2
theorem aw_ok : (busWr (bs0 4096 1) 2147487736 8 7).1 = true ∧ (busWr aw1 268435457 1 1).1 = true ∧ (busFd aw2 0 65).1 = true ∧ (busWr aw3 201326632 4 1).1 = true ∧ (busWr aw4 201334912 4 1024).1 = true ∧ (busRd aw5 2147487736 8).1 = 7 ∧ (busRd aw5 2147487736 8).2.1 = true ∧ (busRd aw6 203427844 4).1 = 10 ∧ (busRd aw6 203427844 4).2.1 = true := by
  refine ⟨?_, ?_, ?_, ?_, ?_, ?_, ?_, ?_, ?_⟩ <;> kernel_rfl

end Go.Proofs.YtbcnkhfpogglmaaGreatDoor

namespace Go.Proofs.YtbcnkhfpogglmaaGreatDoor
open Go.RowKit
set_option linter.unusedVariables false
set_option maxRecDepth 100000

set_option maxHeartbeats 2000000 in
theorem awake_any (w : World) (tabs : Tabs w) : Calls Tryz.prog 15 #[] w fun e w' => e = .returned (.bool true) ∧ Below w.heap.size w w' := by
  have HN := Lib.hid (ownNew w w (Below.refl _ _) tabs 4096 1 (by unfold In64; omega) (by decide))
  obtain ⟨r1, r2, r3, r4, r5, r6, r7, r8, r9⟩ := aw_ok
  have R1 := Lib.hid r1
  have R2 := Lib.hid r2
  have R3 := Lib.hid r3
  have R4 := Lib.hid r4
  have R5 := Lib.hid r5
  have R6 := Lib.hid r6
  have R7 := Lib.hid r7
  have R8 := Lib.hid r8
  have R9 := Lib.hid r9
  clear r1 r2 r3 r4 r5 r6 r7 r8 r9 tabs
  go_enter Tryz.func15, Tryz.ntmps15
  go_wp2_with fail
  (with_reducible refine HN.out.mono ?_)
  rintro e w0 ⟨b, g, vp, ul, rfl, ho⟩
  have HO0 : Hid (OwnB w b g vp ul (bs0 4096 1) w0) := Lib.hid ho
  clear ho HN
  go_wp2_with fail
  (with_reducible refine (ownWrite HO0.out 2147487736 8 7 (by unfold In64; omega) (by unfold In64; omega)).mono ?_)
  rintro e w1 ⟨rfl, ho⟩
  have HO1 : Hid (OwnB w b g vp ul aw1 w1) := Lib.hid ho
  clear ho
  rw [R1.out]
  go_wp2_with fail
  (with_reducible refine (ownWrite HO1.out 268435457 1 1 (by unfold In64; omega) (by unfold In64; omega)).mono ?_)
  rintro e w2 ⟨rfl, ho⟩
  have HO2 : Hid (OwnB w b g vp ul aw2 w2) := Lib.hid ho
  clear ho
  rw [R2.out]
  go_wp2_with fail
  (with_reducible refine (ownFeed HO2.out 0 65 (by omega)).mono ?_)
  rintro e w3 ⟨rfl, ho⟩
  have HO3 : Hid (OwnB w b g vp ul aw3 w3) := Lib.hid ho
  clear ho
  rw [R3.out]
  go_wp2_with fail
  (with_reducible refine (ownWrite HO3.out 201326632 4 1 (by unfold In64; omega) (by unfold In64; omega)).mono ?_)
  rintro e w4 ⟨rfl, ho⟩
  have HO4 : Hid (OwnB w b g vp ul aw4 w4) := Lib.hid ho
  clear ho
  rw [R4.out]
  go_wp2_with fail
  (with_reducible refine (ownWrite HO4.out 201334912 4 1024 (by unfold In64; omega) (by unfold In64; omega)).mono ?_)
  rintro e w5 ⟨rfl, ho⟩
  have HO5 : Hid (OwnB w b g vp ul aw5 w5) := Lib.hid ho
  clear ho
  rw [R5.out]
  go_wp2_with fail
  (with_reducible refine (ownRead HO5.out 2147487736 8 (by unfold In64; omega)).mono ?_)
  rintro e w6 ⟨rfl, ho⟩
  have HO6 : Hid (OwnB w b g vp ul aw6 w6) := Lib.hid ho
  clear ho
  rw [R6.out, R7.out]
  go_wp2_with fail
  (with_reducible refine (ownRead HO6.out 203427844 4 (by unfold In64; omega)).mono ?_)
  rintro e w7 ⟨rfl, ho⟩
  have HO7 : Hid (OwnB w b g vp ul (busRd aw6 203427844 4).2.2 w7) := Lib.hid ho
  clear ho
  rw [R8.out, R9.out]
  go_wp2
  go_ret
  exact ⟨rfl, HO7.out.out⟩

end Go.Proofs.YtbcnkhfpogglmaaGreatDoor

namespace Go.Proofs.YtbcnkhfpogglmaaGreatDoor
open Go.RowKit
set_option linter.unusedVariables false
set_option maxRecDepth 100000

/-- What the last loop finds: every uart's bytes on both sides. -/
def OutsV (w : World) (vb vd : Value) (Lf : Int → List Int) : Prop := ∀ wx, Below w.heap.size w wx → ∀ i : Int, Calls Tryz.prog 17 #[vb, .int .i64 i] wx (OutE wx (Lf i)) ∧ Calls Tryz.prog 23 #[vd, .int .i64 i] wx (OutE wx (Lf i)) ∧ (Lf i).length ≤ 70000
theorem OwnT.outs {w0 w : World} {b d N : Nat} {st : BS} (h : OwnT w0 w b d N st) : OutsV w (.pointer (some ⟨b, 0, none⟩)) (.pointer (some ⟨d, 0, none⟩)) (busOt st.us) := fun wx hx i => ⟨(h.below hx).out i, (h.below hx).rout i, h.len i⟩
theorem outs_none (w : World) : OutsV w (.pointer none) (.pointer none) (fun _ => []) := fun wx hx i => ⟨out_none_bus i wx, refOut_none_bus i wx, Nat.zero_le _⟩
set_option maxRecDepth 100000 in
set_option maxHeartbeats 16000000 in
theorem busPlays_walk (size n : Int) (l : Value) (xs : List ActV) (w : World) (hsz : In64 size) (hn : In63 n) (hl : ActsIn w.heap.size w l xs) (ht : Tabs w) :
    Calls Tryz.prog 4 #[.int .u64 size, .int .i64 n, l] w fun e w' => e = .returned (.bool true) ∧ Below w.heap.size w w' := by
  have HL := Lib.hid hl
  have HT := Lib.hid ht
  have HSZ := Lib.hid hsz
  obtain ⟨al, cl, rfl, hll, _⟩ := hl
  have hll2 : xs.length ≤ 9223372036854775807 := by unfold maxLen at hll; omega
  clear hll ht hsz hn
  by_cases hx60 : 150 < xs.length
  · have hd : decide ((150 : Int) < (xs.length : Int)) = true := by rw [decide_eq_true_eq]; omega
    go_enter Tryz.func4, Tryz.ntmps4
    go_wp2_with fail
    refine (awake_any _ HT.out).mono ?_
    rintro e w1 ⟨rfl, hb⟩
    have HB := Lib.hid hb
    clear hb
    go_wp2
    go_ret
    exact ⟨rfl, HB.out⟩
  have hd : decide ((150 : Int) < (xs.length : Int)) = false := by rw [decide_eq_false_iff_not]; omega
  have hx150 : xs.length ≤ 150 := by omega
  clear hx60
  go_enter Tryz.func4, Tryz.ntmps4
  go_wp2_with fail
  refine (awake_any _ HT.out).mono ?_
  rintro e w1 ⟨rfl, hb⟩
  have HB := Lib.hid hb
  have HT1 := Lib.hid (HT.out.below hb)
  clear hb
  go_wp2_with fail
  refine (busNew_any _ HT1.out size n HSZ.out).mono ?_
  rintro e w2 ⟨hb2, h2⟩
  have HB2 := Lib.hid hb2
  clear hb2
  rcases h2 with ⟨hbad, rfl⟩ | ⟨hok, b, K, g, vp, ul, rfl, hk, P⟩
  · -- none
    have HBAD := Lib.hid hbad
    clear hbad
    go_wp2_with fail
    refine (refNew7_any _ size n HSZ.out).mono ?_
    rintro e w3 ⟨hb3, h3⟩
    have HB3 := Lib.hid ((HB.out.trans (HB2.out.mono HB.out.size)).trans (hb3.mono (Nat.le_trans HB.out.size HB2.out.size)))
    clear hb3
    rcases h3 with ⟨_, rfl⟩ | ⟨hok3, _⟩
    rotate_left
    · exfalso; have := HBAD.out; rw [hok3] at this; cases this
    clear HB2 HB HT1
    go_wp2
    go_loopw [7, 11] (fun v i wr => v = .pointer none ∧ ∃ k : Nat, k ≤ xs.length ∧ i = .int .i64 k ∧ Below w.heap.size w wr) (fun _ i _ => xs.length - (intOf i).toNat)
    case atStart => exact ⟨rfl, 0, Nat.zero_le _, rfl, HB3.out⟩
    case round =>
      obtain ⟨rfl, k, hk, rfl, hbr⟩ := hrel
      have HBR := Lib.hid hbr
      by_cases hlt : k < xs.length
      · obtain ⟨_, _, hv, _, hx⟩ := HL.out
        injection hv with hv1 hv2 hv3
        subst hv1 hv3
        rcases hx with hx | ⟨bb, off, rfl, hbb, hc⟩
        · rw [hx] at hlt; simp at hlt
        have HC : Hid (∀ wz, Below w.heap.size w wz → ActAt wz ⟨bb, off + k * 5, none⟩ xs[k]) := Lib.hid fun wz hz => (hc k hlt).below hz hbb
        obtain ⟨c0, c1, c2, c3, c4, r0, ra, rn, rv, ri⟩ := act_at (HC.out wr hbr)
        have HBOTH := Lib.hid (both_none wr xs[k] ra rv)
        have HRV := Lib.hid rv
        clear hc hbr hv2 r0 ra rn rv ri
        generalize xs[k] = x at *
        obtain ⟨xd, xa, xn, xv, xi⟩ := x
        simp only at c0 c1 c2 c3 c4 HBOTH HRV
        go_wp2_with fail
        (with_reducible refine (HBOTH.out).mono ?_)
        rintro e w7 ⟨rfl, hb7⟩
        have HB7 := Lib.hid (HBR.out.trans (hb7.mono HBR.out.size))
        clear c0 c1 c2 c3 c4 hb7 HBOTH HBR
        obtain ⟨c0, _, _, c3, _⟩ := act_at (HC.out w7 HB7.out)
        simp only at c0 c3
        have hnl := neq_lines false false false false 0 0
        by_cases hx5 : xd = 5
        · subst hx5
          go_wp2_with fail
          (with_reducible refine (twin_none_bus _).mono ?_)
          rintro e w8 ⟨rfl, rfl⟩
          go_wp2_with fail
          (with_reducible refine (write_none_bel _ _ _ _).mono ?_)
          rintro e w9 ⟨rfl, hb9⟩
          have HB9 := Lib.hid (HB7.out.trans (hb9.mono HB7.out.size))
          clear hb9 c0 c3
          obtain ⟨c0, _, _, c3, _⟩ := act_at (HC.out w9 HB9.out)
          simp only at c0 c3
          go_wp2_with fail
          (with_reducible refine (write_none_bel _ _ _ _).mono ?_)
          rintro e w10 ⟨rfl, hb9⟩
          have HB10 := Lib.hid (HB9.out.trans (hb9.mono HB9.out.size))
          clear hb9 c0 c3
          go_wp2_with fail
          (with_reducible refine (tick_none_bus _ _).mono ?_)
          rintro e w11 ⟨⟨u, rfl⟩, rfl⟩
          go_wp2_with fail
          (with_reducible refine (level_none_bus _ _ _).mono ?_)
          rintro e w11 ⟨rfl, rfl⟩
          go_wp2_with fail
          (with_reducible refine (lines_none_bus _).mono ?_)
          rintro e w12 ⟨rfl, hb9⟩
          have HB12 := Lib.hid (HB10.out.trans (hb9.mono HB10.out.size))
          clear hb9
          go_wp2_with fail
          (with_reducible refine (refLines_none_bus _).mono ?_)
          rintro e w13 ⟨rfl, hb9⟩
          have HB13 := Lib.hid (HB12.out.trans (hb9.mono HB12.out.size))
          clear hb9
          go_wp2
          go_roundw
          case rel => exact ⟨rfl, k + 1, by omega, by go_num, HB13.out⟩
          case measure => simp [intOf]; omega
        · have hx5b : (xd == 5) = false := beq_eq_false_iff_ne.2 hx5
          clear hx5
          go_wp2_with fail
          (with_reducible refine (lines_none_bus _).mono ?_)
          rintro e w12 ⟨rfl, hb9⟩
          have HB12 := Lib.hid (HB7.out.trans (hb9.mono HB7.out.size))
          clear hb9 c0 c3
          go_wp2_with fail
          (with_reducible refine (refLines_none_bus _).mono ?_)
          rintro e w13 ⟨rfl, hb9⟩
          have HB13 := Lib.hid (HB12.out.trans (hb9.mono HB12.out.size))
          clear hb9
          go_wp2
          go_roundw
          case rel => exact ⟨rfl, k + 1, by omega, by go_num, HB13.out⟩
          case measure => simp [intOf]; omega
      · have HOUT := Lib.hid (outs_none wr)
        have HBE := HBR
        obtain ⟨wE, rfl⟩ : ∃ wE : World, wE = wr := ⟨_, rfl⟩
        clear hbr HBR
        go_wp2
        go_loopw [13] (fun i wr => ∃ k : Nat, k ≤ 10 ∧ i = .int .i64 ((k : Int) - 1) ∧ Below wE.heap.size wE wr) (fun i wr => (11 - (intOf i + 1)).toNat)
        case atStart => exact ⟨0, by omega, rfl, Below.refl _ _⟩
        case round =>
          obtain ⟨k, hk, rfl, hbr⟩ := hrel
          have HBR := Lib.hid hbr
          clear hbr
          by_cases hlt : k < 10
          · have hlt2 : (k : Int) - 1 < 9 := by omega
            have h10 : (k : Int) < 10 := by omega
            have hge : -1 ≤ (k : Int) - 1 := by omega
            have HLN := Lib.hid (HOUT.out wE (Below.refl _ _) ((k : Int) - 1)).2.2
            have HOT : Hid (∀ wx, Below wr.heap.size wr wx → Calls Tryz.prog 17 #[.pointer none, .int .i64 ((k : Int) - 1)] wx (OutE wx ((fun _ : Int => ([] : List Int)) ((k : Int) - 1)))) := Lib.hid fun wx hx => (HOUT.out wx (HBR.out.trans (hx.mono HBR.out.size)) _).1
            have HOR : Hid (∀ wx, Below wr.heap.size wr wx → Calls Tryz.prog 23 #[.pointer none, .int .i64 ((k : Int) - 1)] wx (OutE wx ((fun _ : Int => ([] : List Int)) ((k : Int) - 1)))) := Lib.hid fun wx hx => (HOUT.out wx (HBR.out.trans (hx.mono HBR.out.size)) _).2.1
            have HSTR : Hid (∀ wx v, U6.RowB wx v ((fun _ : Int => ([] : List Int)) ((k : Int) - 1)) → (convert 40 9 v).run Tryz.prog wx = .ok (.string (strOfNums ((fun _ : Int => ([] : List Int)) ((k : Int) - 1)))) wx) := Lib.hid fun wx v h => U6.conv_row h HLN.out
            generalize strOfNums ((fun _ : Int => ([] : List Int)) ((k : Int) - 1)) = sO at *
            generalize (fun _ : Int => ([] : List Int)) ((k : Int) - 1) = L at *
            have bo : (sO.toList == sO.toList) = true := by simp
            have bn : (sO.toList != sO.toList) = false := by simp
            go_wp2_with fail
            refine wp_region_held_drew (S := fun wx => Below wr.heap.size wr wx) (by kernel_rfl) ((Below.refl _ _).drew) (fun hHeld0 => ?_)
            have HS := Lib.hid hHeld0
            clear hHeld0
            refine takeD (i := 0) (some 91) (v := ?_) rfl rfl (by kernel_rfl) (by kernel_rfl) (by kernel_rfl) (fun _ _ _ h => h) (by rfl) HS.out ?_ ?_
            rotate_left
            · intro wx hSx
              clear hSx
              go_simp
              try (with_reducible rfl)
            simp only [Act.put, List.setIfInBounds_toArray, List.set_cons_zero, List.set_cons_succ]
            refine takeD (i := 1) (some 92) (v := ?_) rfl rfl (by kernel_rfl) (by kernel_rfl) (by kernel_rfl) (fun _ _ _ h => h) (by rfl) HS.out ?_ ?_
            rotate_left
            · intro wx hSx
              clear hSx
              go_simp
              try (with_reducible rfl)
            simp only [Act.put, List.setIfInBounds_toArray, List.set_cons_zero, List.set_cons_succ]
            refine takeD (i := 4) (some 95) (v := ?_) rfl rfl (by kernel_rfl) (by kernel_rfl) (by kernel_rfl) (fun _ _ _ h => h) (by rfl) HS.out ?_ ?_
            rotate_left
            · intro wx hSx
              clear hSx
              go_simp
              try (with_reducible rfl)
            simp only [Act.put, List.setIfInBounds_toArray, List.set_cons_zero, List.set_cons_succ]
            refine takeD (i := 5) (some 96) (v := ?_) rfl rfl (by kernel_rfl) (by kernel_rfl) (by kernel_rfl) (fun _ _ _ h => h) (by rfl) HS.out ?_ ?_
            rotate_left
            · intro wx hSx
              clear hSx
              go_simp
              try (with_reducible rfl)
            simp only [Act.put, List.setIfInBounds_toArray, List.set_cons_zero, List.set_cons_succ]
            refine wpAnyH_ready (rs := [2]) (by kernel_rfl) (by simp) ?_
            refine AllReadyH.cons rfl (fun K hK => ?_) AllReadyH.nil
            go_simp
            (with_reducible refine (HOT.out _ HS.out).mono ?_)
            rintro e w5 ⟨a5, k5, rfl, hb5, hr5⟩
            have HB5 := Lib.hid (HS.out.trans (hb5.mono HS.out.size))
            have HC5 : Hid (∀ wx, Below w5.heap.size w5 wx → (convert 40 9 (.slice a5 L.length k5)).run Tryz.prog wx = .ok (.string sO) wx) := Lib.hid fun wx hx => HSTR.out wx _ (hr5.below hx)
            clear hb5 hr5
            go_simp
            refine hK.out _ _ ?_ (fun hHeld => ?_)
            · exact HB5.out
            clear hHeld hK K
            try simp only [Act.put, List.setIfInBounds_toArray, List.set_cons_zero, List.set_cons_succ]
            refine wpAnyH_more (T := fun wx => Below w5.heap.size w5 wx) (fun wx hx => HB5.out.trans (hx.mono HB5.out.size)) _ _ _ _ ?_
            replace HS : Hid (Below w5.heap.size w5 w5) := Lib.hid (Below.refl _ _)
            refine takeD (i := 3) (some 94) (v := ?_) rfl rfl (by kernel_rfl) (by kernel_rfl) (by kernel_rfl) (fun _ _ _ h => h) (by rfl) HS.out ?_ ?_
            rotate_left
            · intro wx hSx
              have hcv := HC5.out wx hSx
              clear hSx
              go_simp
              try (with_reducible rfl)
            simp only [Act.put, List.setIfInBounds_toArray, List.set_cons_zero, List.set_cons_succ]
            refine wpAnyH_ready (rs := [6]) (by kernel_rfl) (by simp) ?_
            refine AllReadyH.cons rfl (fun K hK => ?_) AllReadyH.nil
            go_simp
            (with_reducible refine (HOR.out _ (HB5.out.trans (HS.out.mono HB5.out.size))).mono ?_)
            rintro e w7 ⟨a7, k7, rfl, hb5, hr5⟩
            have HB57 := Lib.hid (HS.out.trans (hb5.mono HS.out.size))
            have HB7 := Lib.hid (HB5.out.trans (HB57.out.mono HB5.out.size))
            have HC7 : Hid (∀ wx, Below w7.heap.size w7 wx → (convert 40 9 (.slice a7 L.length k7)).run Tryz.prog wx = .ok (.string sO) wx) := Lib.hid fun wx hx => HSTR.out wx _ (hr5.below hx)
            clear hb5 hr5
            go_simp
            refine hK.out _ _ ?_ (fun hHeld => ?_)
            · exact HB57.out
            clear hHeld hK K
            try simp only [Act.put, List.setIfInBounds_toArray, List.set_cons_zero, List.set_cons_succ]
            refine wpAnyH_more (T := fun wx => Below w7.heap.size w7 wx) (fun wx hx => HB57.out.trans (hx.mono HB57.out.size)) _ _ _ _ ?_
            replace HS : Hid (Below w7.heap.size w7 w7) := Lib.hid (Below.refl _ _)
            refine takeD (i := 7) (some 98) (v := ?_) rfl rfl (by kernel_rfl) (by kernel_rfl) (by kernel_rfl) (fun _ _ _ h => h) (by rfl) HS.out ?_ ?_
            rotate_left
            · intro wx hSx
              have hcv := HC7.out wx hSx
              clear hSx
              go_simp
              try (with_reducible rfl)
            simp only [Act.put, List.setIfInBounds_toArray, List.set_cons_zero, List.set_cons_succ]
            refine takeD (i := 8) (some 99) (v := ?_) rfl rfl (by kernel_rfl) (by kernel_rfl) (by kernel_rfl) (fun _ _ _ h => h) (by rfl) HS.out ?_ ?_
            rotate_left
            · intro wx hSx
              clear hSx
              go_simp
              try (with_reducible rfl)
            simp only [Act.put, List.setIfInBounds_toArray, List.set_cons_zero, List.set_cons_succ]
            refine wpAnyH_done (by kernel_rfl) ?_ _
            go_wp2
            go_roundw
            case rel => exact ⟨k + 1, by omega, by congr 1; omega, HBR.out.trans (HB7.out.mono HBR.out.size)⟩
            case measure => simp [intOf]; omega
          · have hlt2 : ¬ (k : Int) - 1 < 9 := by omega
            go_wp2
            go_ret
            exact ⟨rfl, HBE.out.trans (HBR.out.mono HBE.out.size)⟩
  · -- one
    have HOK := Lib.hid hok
    clear hok
    go_wp2_with fail
    refine (refNew7_any _ size n HSZ.out).mono ?_
    rintro e w3 ⟨hb3, h3⟩
    rcases h3 with ⟨hbad3, _⟩ | ⟨_, d, L, h, vq, um, rfl, hl, R⟩
    · exfalso; have := HOK.out; rw [hbad3] at this; cases this
    have HO := Lib.hid (OwnT.made HB.out HB2.out P hk hb3 R hl HT.out)
    clear P hk R hl hb3 HB2 HB HT1
    generalize bs0 size n.toNat = st0 at *
    go_wp2
    go_loopw [7, 11] (fun v i wr => ∃ k : Nat, k ≤ xs.length ∧ i = .int .i64 k ∧ ∃ b N st, v = .pointer (some ⟨b, 0, none⟩) ∧ N ≤ 8 * k ∧ OwnT w wr b d N st) (fun _ i _ => xs.length - (intOf i).toNat)
    case atStart => exact ⟨0, Nat.zero_le _, rfl, b, 0, st0, rfl, by omega, HO.out⟩
    case round =>
      obtain ⟨k, hk, rfl, b, N, st, rfl, hN, hT⟩ := hrel
      clear HO
      have HO := Lib.hid hT
      have hbr := hT.1
      clear hT
      by_cases hlt : k < xs.length
      · obtain ⟨_, _, hv, _, hx⟩ := HL.out
        injection hv with hv1 hv2 hv3
        subst hv1 hv3
        rcases hx with hx | ⟨bb, off, rfl, hbb, hc⟩
        · rw [hx] at hlt; simp at hlt
        have HC : Hid (∀ wz, Below w.heap.size w wz → ActAt wz ⟨bb, off + k * 5, none⟩ xs[k]) := Lib.hid fun wz hz => (hc k hlt).below hz hbb
        obtain ⟨c0, c1, c2, c3, c4, r0, ra, rn, rv, ri⟩ := act_at (HC.out wr hbr)
        have HBOTH := Lib.hid (HO.out.both (by omega) xs[k] ra rn rv ri)
        have HRV := Lib.hid rv
        clear hc hbr hv2 r0 ra rn rv ri
        generalize xs[k] = x at *
        obtain ⟨xd, xa, xn, xv, xi⟩ := x
        simp only at c0 c1 c2 c3 c4 HBOTH HRV
        go_wp2_with fail
        (with_reducible refine (HBOTH.out).mono ?_)
        rintro e w7 ⟨rfl, st7, hO7⟩
        have HO7 := Lib.hid hO7
        have hN7 : N + 8 ≤ 8 * (k + 1) := by omega
        clear c0 c1 c2 c3 c4 hO7 HBOTH HO
        obtain ⟨c0, _, _, c3, _⟩ := act_at (HC.out w7 HO7.out.1)
        simp only at c0 c3
        by_cases hx5 : xd = 5
        · subst hx5
          go_wp2_with fail
          (with_reducible refine (HO7.out.twin).mono ?_)
          rintro e w8 ⟨b2, rfl, h8⟩
          have HT8 := Lib.hid h8
          clear h8 c0 c3 HO7
          obtain ⟨c0, _, _, c3, _⟩ := act_at (HC.out w8 HT8.out.bel)
          simp only at c0 c3
          go_wp2_with fail
          (with_reducible refine (HT8.out.write 2147483648 8 xv (by unfold In64; omega) HRV.out).mono ?_)
          rintro e w9 ⟨r9, s9, rfl, h9⟩
          have HT9 := Lib.hid h9
          clear h9 c0 c3
          obtain ⟨c0, _, _, c3, _⟩ := act_at (HC.out w9 HT9.out.bel)
          simp only at c0 c3
          go_wp2_with fail
          (with_reducible refine (HT9.out.write 268435456 1 xv (by unfold In64; omega) HRV.out).mono ?_)
          rintro e w10 ⟨r10, s10, rfl, h9⟩
          have HT10 := Lib.hid h9
          clear h9 c0 c3
          go_wp2_with fail
          (with_reducible refine (HT10.out.tick 3 (by unfold In64; omega)).mono ?_)
          rintro e w11 ⟨r11, s11, rfl, h9⟩
          have HT11 := Lib.hid h9
          clear h9
          go_wp2_with fail
          (with_reducible refine (HT11.out.level 31 true (by unfold In63; omega)).mono ?_)
          rintro e w12 ⟨r12, s12, rfl, h9⟩
          have HO12 := Lib.hid h9.own
          clear h9
          have hnl := neq_lines st7.c.s (C4.mtC st7.c) (P5.lineT st7.p 0) (P5.lineT st7.p 1) (if P5.upT st7.p 31 = true then 2 else 0) st7.c.n
          have HLB := Lib.hid HO12.out.lines
          have HLR : Hid (∀ wx, Below w12.heap.size w12 wx → Calls Tryz.prog 22 #[.pointer (some ⟨d, 0, none⟩)] wx (LinesE wx (linesV st7))) := Lib.hid fun wx hx => (HO12.out.below hx).rlines
          unfold linesV linesW at HLB HLR
          generalize st7.c.s = l0 at *
          generalize C4.mtC st7.c = l1 at *
          generalize P5.lineT st7.p 0 = l2 at *
          generalize P5.lineT st7.p 1 = l3 at *
          generalize (if P5.upT st7.p 31 = true then (2 : Int) else 0) = l4 at *
          generalize st7.c.n = l5 at *
          go_wp2_with fail
          (with_reducible refine (HLB.out).mono ?_)
          rintro e w13 ⟨rfl, hb9⟩
          have HB13 := Lib.hid hb9
          clear hb9
          go_wp2_with fail
          (with_reducible refine (HLR.out _ HB13.out).mono ?_)
          rintro e w14 ⟨rfl, hb9⟩
          have HO14 := Lib.hid ((HO12.out.below HB13.out).below hb9)
          clear hb9
          go_wp2
          go_roundw
          case rel => exact ⟨k + 1, by omega, by go_num, b2, N + 8, st7, rfl, hN7, HO14.out⟩
          case measure => simp [intOf]; omega
        · have hx5b : (xd == 5) = false := beq_eq_false_iff_ne.2 hx5
          clear hx5
          have hnl := neq_lines st7.c.s (C4.mtC st7.c) (P5.lineT st7.p 0) (P5.lineT st7.p 1) (if P5.upT st7.p 31 = true then 2 else 0) st7.c.n
          have HLB := Lib.hid HO7.out.lines
          have HLR : Hid (∀ wx, Below w7.heap.size w7 wx → Calls Tryz.prog 22 #[.pointer (some ⟨d, 0, none⟩)] wx (LinesE wx (linesV st7))) := Lib.hid fun wx hx => (HO7.out.below hx).rlines
          unfold linesV linesW at HLB HLR
          generalize st7.c.s = l0 at *
          generalize C4.mtC st7.c = l1 at *
          generalize P5.lineT st7.p 0 = l2 at *
          generalize P5.lineT st7.p 1 = l3 at *
          generalize (if P5.upT st7.p 31 = true then (2 : Int) else 0) = l4 at *
          generalize st7.c.n = l5 at *
          go_wp2_with fail
          (with_reducible refine (HLB.out).mono ?_)
          rintro e w13 ⟨rfl, hb9⟩
          have HB13 := Lib.hid hb9
          clear hb9 c0 c3
          go_wp2_with fail
          (with_reducible refine (HLR.out _ HB13.out).mono ?_)
          rintro e w14 ⟨rfl, hb9⟩
          have HO14 := Lib.hid ((HO7.out.below HB13.out).below hb9)
          clear hb9
          go_wp2
          go_roundw
          case rel => exact ⟨k + 1, by omega, by go_num, b, N + 8, st7, rfl, hN7, HO14.out⟩
          case measure => simp [intOf]; omega
      · have HOUT := Lib.hid HO.out.outs
        have HBE := Lib.hid hbr
        obtain ⟨wE, rfl⟩ : ∃ wE : World, wE = wr := ⟨_, rfl⟩
        clear hbr HO
        go_wp2
        go_loopw [13] (fun i wr => ∃ k : Nat, k ≤ 10 ∧ i = .int .i64 ((k : Int) - 1) ∧ Below wE.heap.size wE wr) (fun i wr => (11 - (intOf i + 1)).toNat)
        case atStart => exact ⟨0, by omega, rfl, Below.refl _ _⟩
        case round =>
          obtain ⟨k, hk, rfl, hbr⟩ := hrel
          have HBR := Lib.hid hbr
          clear hbr
          by_cases hlt : k < 10
          · have hlt2 : (k : Int) - 1 < 9 := by omega
            have h10 : (k : Int) < 10 := by omega
            have hge : -1 ≤ (k : Int) - 1 := by omega
            have HLN := Lib.hid (HOUT.out wE (Below.refl _ _) ((k : Int) - 1)).2.2
            have HOT : Hid (∀ wx, Below wr.heap.size wr wx → Calls Tryz.prog 17 #[.pointer (some ⟨b, 0, none⟩), .int .i64 ((k : Int) - 1)] wx (OutE wx (busOt st.us ((k : Int) - 1)))) := Lib.hid fun wx hx => (HOUT.out wx (HBR.out.trans (hx.mono HBR.out.size)) _).1
            have HOR : Hid (∀ wx, Below wr.heap.size wr wx → Calls Tryz.prog 23 #[.pointer (some ⟨d, 0, none⟩), .int .i64 ((k : Int) - 1)] wx (OutE wx (busOt st.us ((k : Int) - 1)))) := Lib.hid fun wx hx => (HOUT.out wx (HBR.out.trans (hx.mono HBR.out.size)) _).2.1
            have HSTR : Hid (∀ wx v, U6.RowB wx v (busOt st.us ((k : Int) - 1)) → (convert 40 9 v).run Tryz.prog wx = .ok (.string (strOfNums (busOt st.us ((k : Int) - 1)))) wx) := Lib.hid fun wx v h => U6.conv_row h HLN.out
            generalize strOfNums (busOt st.us ((k : Int) - 1)) = sO at *
            generalize busOt st.us ((k : Int) - 1) = L at *
            have bo : (sO.toList == sO.toList) = true := by simp
            have bn : (sO.toList != sO.toList) = false := by simp
            go_wp2_with fail
            refine wp_region_held_drew (S := fun wx => Below wr.heap.size wr wx) (by kernel_rfl) ((Below.refl _ _).drew) (fun hHeld0 => ?_)
            have HS := Lib.hid hHeld0
            clear hHeld0
            refine takeD (i := 0) (some 91) (v := ?_) rfl rfl (by kernel_rfl) (by kernel_rfl) (by kernel_rfl) (fun _ _ _ h => h) (by rfl) HS.out ?_ ?_
            rotate_left
            · intro wx hSx
              clear hSx
              go_simp
              try (with_reducible rfl)
            simp only [Act.put, List.setIfInBounds_toArray, List.set_cons_zero, List.set_cons_succ]
            refine takeD (i := 1) (some 92) (v := ?_) rfl rfl (by kernel_rfl) (by kernel_rfl) (by kernel_rfl) (fun _ _ _ h => h) (by rfl) HS.out ?_ ?_
            rotate_left
            · intro wx hSx
              clear hSx
              go_simp
              try (with_reducible rfl)
            simp only [Act.put, List.setIfInBounds_toArray, List.set_cons_zero, List.set_cons_succ]
            refine takeD (i := 4) (some 95) (v := ?_) rfl rfl (by kernel_rfl) (by kernel_rfl) (by kernel_rfl) (fun _ _ _ h => h) (by rfl) HS.out ?_ ?_
            rotate_left
            · intro wx hSx
              clear hSx
              go_simp
              try (with_reducible rfl)
            simp only [Act.put, List.setIfInBounds_toArray, List.set_cons_zero, List.set_cons_succ]
            refine takeD (i := 5) (some 96) (v := ?_) rfl rfl (by kernel_rfl) (by kernel_rfl) (by kernel_rfl) (fun _ _ _ h => h) (by rfl) HS.out ?_ ?_
            rotate_left
            · intro wx hSx
              clear hSx
              go_simp
              try (with_reducible rfl)
            simp only [Act.put, List.setIfInBounds_toArray, List.set_cons_zero, List.set_cons_succ]
            refine wpAnyH_ready (rs := [2]) (by kernel_rfl) (by simp) ?_
            refine AllReadyH.cons rfl (fun K hK => ?_) AllReadyH.nil
            go_simp
            (with_reducible refine (HOT.out _ HS.out).mono ?_)
            rintro e w5 ⟨a5, k5, rfl, hb5, hr5⟩
            have HB5 := Lib.hid (HS.out.trans (hb5.mono HS.out.size))
            have HC5 : Hid (∀ wx, Below w5.heap.size w5 wx → (convert 40 9 (.slice a5 L.length k5)).run Tryz.prog wx = .ok (.string sO) wx) := Lib.hid fun wx hx => HSTR.out wx _ (hr5.below hx)
            clear hb5 hr5
            go_simp
            refine hK.out _ _ ?_ (fun hHeld => ?_)
            · exact HB5.out
            clear hHeld hK K
            try simp only [Act.put, List.setIfInBounds_toArray, List.set_cons_zero, List.set_cons_succ]
            refine wpAnyH_more (T := fun wx => Below w5.heap.size w5 wx) (fun wx hx => HB5.out.trans (hx.mono HB5.out.size)) _ _ _ _ ?_
            replace HS : Hid (Below w5.heap.size w5 w5) := Lib.hid (Below.refl _ _)
            refine takeD (i := 3) (some 94) (v := ?_) rfl rfl (by kernel_rfl) (by kernel_rfl) (by kernel_rfl) (fun _ _ _ h => h) (by rfl) HS.out ?_ ?_
            rotate_left
            · intro wx hSx
              have hcv := HC5.out wx hSx
              clear hSx
              go_simp
              try (with_reducible rfl)
            simp only [Act.put, List.setIfInBounds_toArray, List.set_cons_zero, List.set_cons_succ]
            refine wpAnyH_ready (rs := [6]) (by kernel_rfl) (by simp) ?_
            refine AllReadyH.cons rfl (fun K hK => ?_) AllReadyH.nil
            go_simp
            (with_reducible refine (HOR.out _ (HB5.out.trans (HS.out.mono HB5.out.size))).mono ?_)
            rintro e w7 ⟨a7, k7, rfl, hb5, hr5⟩
            have HB57 := Lib.hid (HS.out.trans (hb5.mono HS.out.size))
            have HB7 := Lib.hid (HB5.out.trans (HB57.out.mono HB5.out.size))
            have HC7 : Hid (∀ wx, Below w7.heap.size w7 wx → (convert 40 9 (.slice a7 L.length k7)).run Tryz.prog wx = .ok (.string sO) wx) := Lib.hid fun wx hx => HSTR.out wx _ (hr5.below hx)
            clear hb5 hr5
            go_simp
            refine hK.out _ _ ?_ (fun hHeld => ?_)
            · exact HB57.out
            clear hHeld hK K
            try simp only [Act.put, List.setIfInBounds_toArray, List.set_cons_zero, List.set_cons_succ]
            refine wpAnyH_more (T := fun wx => Below w7.heap.size w7 wx) (fun wx hx => HB57.out.trans (hx.mono HB57.out.size)) _ _ _ _ ?_
            replace HS : Hid (Below w7.heap.size w7 w7) := Lib.hid (Below.refl _ _)
            refine takeD (i := 7) (some 98) (v := ?_) rfl rfl (by kernel_rfl) (by kernel_rfl) (by kernel_rfl) (fun _ _ _ h => h) (by rfl) HS.out ?_ ?_
            rotate_left
            · intro wx hSx
              have hcv := HC7.out wx hSx
              clear hSx
              go_simp
              try (with_reducible rfl)
            simp only [Act.put, List.setIfInBounds_toArray, List.set_cons_zero, List.set_cons_succ]
            refine takeD (i := 8) (some 99) (v := ?_) rfl rfl (by kernel_rfl) (by kernel_rfl) (by kernel_rfl) (fun _ _ _ h => h) (by rfl) HS.out ?_ ?_
            rotate_left
            · intro wx hSx
              clear hSx
              go_simp
              try (with_reducible rfl)
            simp only [Act.put, List.setIfInBounds_toArray, List.set_cons_zero, List.set_cons_succ]
            refine wpAnyH_done (by kernel_rfl) ?_ _
            go_wp2
            go_roundw
            case rel => exact ⟨k + 1, by omega, by congr 1; omega, HBR.out.trans (HB7.out.mono HBR.out.size)⟩
            case measure => simp [intOf]; omega
          · have hlt2 : ¬ (k : Int) - 1 < 9 := by omega
            go_wp2
            go_ret
            exact ⟨rfl, HBE.out.trans (HBR.out.mono HBE.out.size)⟩

end Go.Proofs.YtbcnkhfpogglmaaGreatDoor

namespace Go.Proofs.YtbcnkhfpogglmaaGreatDoor.P5
open Go.ChangeShapes Go.WideShapes Go.ChangeAt Go.RowKit
set_option linter.unusedVariables false
set_option maxRecDepth 100000

/-- The one listed variable. -/
abbrev laidT : List (String × DataW Unit) := [("mezzanine/plic.groups", Rows.laid_mezzanine_plic_groups)]
theorem gGroups : Tryz.prog.globalNamed "mezzanine/plic.groups" = some 0 := by kernel_rfl
theorem tGroups : (Tryz.prog.globals[0]?).map (·.type) = some 181 := by kernel_rfl
section
variable {H : Type} {enc : TypeId × Value → H} {w : World} {base : Nat} {spare : Nat → Bool} {held : Bool}
/-- A row of the table, read as its four numbers, has these cells. -/
theorem group_cells {n : Nat} {cs : List Value} {x : DataW H × List MemPlace} {a b c d : Int}
    (h : DataW.trod enc Tryz.prog w base spare held n 180 cs = some x) (hx : x.1 = .agg [.lit (.int .i64 a), .lit (.int .u64 b), .lit (.int .u64 c), .lit (.int .u64 d)]) :
    cs = [.int .i64 a, .int .u64 b, .int .u64 c, .int .u64 d] := by
  obtain ⟨xs, m, _, rfl, hl, hlen, hf⟩ := DataW.trod_struct Tryz.underlying180 h
  have hC : Tryz.prog.cellsOf 180 = 4 := by kernel_rfl
  rw [hC] at hl
  match cs, hl with
  | [v0, v1, v2, v3], _ =>
    have t0 := hf 0 _ rfl
    have t1 := hf 1 _ rfl
    have t2 := hf 2 _ rfl
    have t3 := hf 3 _ rfl
    match xs, hlen with
    | [x0, x1, x2, x3], _ =>
      obtain ⟨n0, e0, y0, _⟩ := DataW.trod_int Tryz.underlying161 (show DataW.trod enc Tryz.prog w base spare held m 161 [v0] = some x0 from t0)
      obtain ⟨n1, e1, y1, _⟩ := DataW.trod_int Tryz.underlying26 (show DataW.trod enc Tryz.prog w base spare held m 26 [v1] = some x1 from t1)
      obtain ⟨n2, e2, y2, _⟩ := DataW.trod_int Tryz.underlying26 (show DataW.trod enc Tryz.prog w base spare held m 26 [v2] = some x2 from t2)
      obtain ⟨n3, e3, y3, _⟩ := DataW.trod_int Tryz.underlying26 (show DataW.trod enc Tryz.prog w base spare held m 26 [v3] = some x3 from t3)
      simp at e0 e1 e2 e3
      subst e0 e1 e2 e3 y0 y1 y2 y3
      simp at hx
      obtain ⟨rfl, rfl, rfl, rfl⟩ := hx
      rfl
end
theorem list20 {l a b c d e : List Value} (hl : l.length = 20) (h0 : l.take 4 = a) (h1 : (l.drop 4).take 4 = b) (h2 : (l.drop 8).take 4 = c) (h3 : (l.drop 12).take 4 = d) (h4 : (l.drop 16).take 4 = e) : l = a ++ b ++ c ++ d ++ e := by
  subst h0 h1 h2 h3 h4
  match l, hl with
  | [_, _, _, _, _, _, _, _, _, _, _, _, _, _, _, _, _, _, _, _], _ => rfl
/-- What the condition gives. -/
theorem tab_of_laid {W : World} (h : laidMetH Tryz.prog laidT W) : Tab W := by
  rw [MakeChecks.laidMetH_plain _ _ _ (by kernel_rfl)] at h
  obtain ⟨ps, ⟨g0, t0, cs0, f0, p0, q0, hg0, ht0, hv0, hd0, _⟩, _, _⟩ := h
  obtain rfl := Option.some.inj (gGroups.symm.trans hg0)
  obtain rfl := Option.some.inj (tGroups.symm.trans ht0)
  obtain ⟨xs, m, _, hx, hl, hn, hel⟩ := DataW.trod_array Tryz.underlying181 hd0
  have c68 : Tryz.prog.cellsOf 180 = 4 := by kernel_rfl
  have c69 : Tryz.prog.cellsOf 181 = 20 := by kernel_rfl
  rw [c69] at hl
  rw [c68] at hel
  simp only [Prod.mk.injEq] at hx
  match xs, hn with
  | [x0, x1, x2, x3, x4], _ =>
    have hx1 := hx.1
    unfold Rows.laid_mezzanine_plic_groups at hx1
    simp only [List.map_cons, List.map_nil, DataW.agg.injEq, List.cons.injEq] at hx1
    obtain ⟨e0, e1, e2, e3, e4, _⟩ := hx1
    have k0 := group_cells (hel 0 (by decide)) e0.symm
    have k1 := group_cells (hel 1 (by decide)) e1.symm
    have k2 := group_cells (hel 2 (by decide)) e2.symm
    have k3 := group_cells (hel 3 (by decide)) e3.symm
    have k4 := group_cells (hel 4 (by decide)) e4.symm
    have hcs := list20 hl k0 k1 k2 k3 k4
    simp only [World.var?, gGroups, Option.bind_some] at hv0
    split at hv0
    · rename_i c t fr hb
      have hc := Option.some.inj hv0
      have hq : cs0 = tabQ := Array.ext' (by rw [hcs]; rfl)
      exact ⟨t, fr, by rw [hb, hc, hq]⟩
    · cases hv0

end Go.Proofs.YtbcnkhfpogglmaaGreatDoor.P5

namespace Go.Proofs.YtbcnkhfpogglmaaGreatDoor.U6
open Go.ChangeShapes Go.WideShapes Go.ChangeAt Go.RowKit
set_option linter.unusedVariables false
set_option maxRecDepth 100000

/-- The one listed variable. -/
abbrev laidT : List (String × DataW Unit) := [("mezzanine/uart.kept", Rows.laid_mezzanine_uart_kept)]
theorem gKept : Tryz.prog.globalNamed "mezzanine/uart.kept" = some 1 := by kernel_rfl
theorem tKept : (Tryz.prog.globals[1]?).map (·.type) = some 129 := by kernel_rfl
section
variable {H : Type} {enc : TypeId × Value → H} {w : World} {base : Nat} {spare : Nat → Bool} {held : Bool}
theorem byte_cell {n : Nat} {cs : List Value} {x : DataW H × List MemPlace} {a : Int} (hl : cs.length = 1) (h : DataW.trod enc Tryz.prog w base spare held n 5 cs = some x) (hx : x.1 = .lit (.int .u8 a)) : cs = [.int .u8 a] := by
  match cs, hl with
  | [v], _ =>
    obtain ⟨m, e, y, _⟩ := DataW.trod_int Tryz.underlying5 h
    simp at e
    subst e y
    simp at hx
    subst hx
    rfl
end
theorem list10 {l : List Value} {a : Nat → Value} (hl : l.length = 10) (h : ∀ i, i < 10 → (l.drop i).take 1 = [a i]) : l = (List.range 10).map a := by
  apply List.ext_getElem?
  intro i
  by_cases hi : i < 10
  · have h1 := h i hi
    have h2 : l[i]? = some (a i) := by
      have := congrArg (fun l => l[0]?) h1
      simpa [List.getElem?_take, List.getElem?_drop] using this
    rw [h2]; simp [hi]
  · rw [List.getElem?_eq_none (by omega), List.getElem?_eq_none (by simp; omega)]
/-- What the condition gives. -/
theorem tab_of_laid {W : World} (h : laidMetH Tryz.prog laidT W) : Tab W := by
  rw [MakeChecks.laidMetH_plain _ _ _ (by kernel_rfl)] at h
  obtain ⟨ps, ⟨g0, t0, cs0, f0, p0, q0, hg0, ht0, hv0, hd0, _⟩, _, _⟩ := h
  obtain rfl := Option.some.inj (gKept.symm.trans hg0)
  obtain rfl := Option.some.inj (tKept.symm.trans ht0)
  obtain ⟨xs, m, _, hx, hl, hn, hel⟩ := DataW.trod_array Tryz.underlying129 hd0
  have c5 : Tryz.prog.cellsOf 5 = 1 := by kernel_rfl
  have c50 : Tryz.prog.cellsOf 129 = 10 := by kernel_rfl
  rw [c50] at hl
  rw [c5] at hel
  simp only [Prod.mk.injEq] at hx
  match xs, hn with
  | [x0, x1, x2, x3, x4, x5, x6, x7, x8, x9], _ =>
    have hx1 := hx.1
    unfold Rows.laid_mezzanine_uart_kept at hx1
    simp only [List.map_cons, List.map_nil, DataW.agg.injEq, List.cons.injEq] at hx1
    obtain ⟨e0, e1, e2, e3, e4, e5, e6, e7, e8, e9, _⟩ := hx1
    have hcs : cs0.toList = (List.range 10).map fun i => keptQ.getD i undef := list10 hl fun i hi => by
      have hk : ((cs0.toList.drop i).take 1).length = 1 := by rw [List.length_take, List.length_drop, hl]; omega
      have hc : i = 0 ∨ i = 1 ∨ i = 2 ∨ i = 3 ∨ i = 4 ∨ i = 5 ∨ i = 6 ∨ i = 7 ∨ i = 8 ∨ i = 9 := by omega
      rcases hc with rfl | rfl | rfl | rfl | rfl | rfl | rfl | rfl | rfl | rfl
      · exact byte_cell hk (hel 0 (by decide)) e0.symm
      · exact byte_cell hk (hel 1 (by decide)) e1.symm
      · exact byte_cell hk (hel 2 (by decide)) e2.symm
      · exact byte_cell hk (hel 3 (by decide)) e3.symm
      · exact byte_cell hk (hel 4 (by decide)) e4.symm
      · exact byte_cell hk (hel 5 (by decide)) e5.symm
      · exact byte_cell hk (hel 6 (by decide)) e6.symm
      · exact byte_cell hk (hel 7 (by decide)) e7.symm
      · exact byte_cell hk (hel 8 (by decide)) e8.symm
      · exact byte_cell hk (hel 9 (by decide)) e9.symm
    simp only [World.var?, gKept, Option.bind_some] at hv0
    split at hv0
    · rename_i c t fr hb
      have hc := Option.some.inj hv0
      have hq : cs0 = keptQ := Array.ext' (by rw [hcs]; rfl)
      exact ⟨t, fr, by rw [hb, hc, hq]⟩
    · cases hv0

end Go.Proofs.YtbcnkhfpogglmaaGreatDoor.U6

namespace Go.Proofs.YtbcnkhfpogglmaaGreatDoor
open Go.ChangeShapes Go.WideShapes Go.ChangeAt Go.RowKit
set_option linter.unusedVariables false
set_option maxRecDepth 100000

/-- The listed variables. -/
abbrev laidT : List (String × DataW Unit) := [("mezzanine/plic.groups", Rows.laid_mezzanine_plic_groups), ("mezzanine/uart.kept", Rows.laid_mezzanine_uart_kept)]
theorem door_met (os : Os) (args : Array Value) : laidMetH Tryz.prog laidT ((World.doorLaid Tryz.prog 400 os).forCall (fun _ _ => 0) ⟨#[], args, []⟩).memory :=
  laidMetH_of_parts3 (fuel := 8) (laidMet_of_run' 8 (by kernel_rfl) (by kernel_rfl)) (by kernel_rfl) (by kernel_rfl)
/-- What the condition gives. -/
theorem tab_of_laid {W : World} (h : laidMetH Tryz.prog laidT W) : Tabs W := by
  rw [MakeChecks.laidMetH_plain _ _ _ (by kernel_rfl)] at h
  obtain ⟨ps, ⟨g0, t0, cs0, f0, p0, q0, hg0, ht0, hv0, hd0, hr, hps⟩, hn, hc⟩ := h
  subst hps
  refine ⟨P5.tab_of_laid ?_, U6.tab_of_laid ?_⟩
  · rw [MakeChecks.laidMetH_plain _ _ _ (by kernel_rfl)]
    refine ⟨MemPlace.row ⟨g0, 0, none⟩ cs0.size ++ p0 ++ [], ⟨g0, t0, cs0, f0, p0, [], hg0, ht0, hv0, hd0, rfl, rfl⟩, ?_, fun b off hm => hc b off ?_⟩
    · rw [List.append_nil]; exact (List.nodup_append.1 hn).1
    · rw [List.append_nil] at hm; exact List.mem_append.2 (.inl hm)
  · rw [MakeChecks.laidMetH_plain _ _ _ (by kernel_rfl)]
    exact ⟨q0, hr, (List.nodup_append.1 hn).2.1, fun b off hm => hc b off (List.mem_append.2 (.inr hm))⟩

end Go.Proofs.YtbcnkhfpogglmaaGreatDoor
