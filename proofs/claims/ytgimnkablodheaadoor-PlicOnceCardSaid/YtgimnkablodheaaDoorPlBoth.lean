/- Layer 5's laws: an act by a plic of the program and the document's. -/
import Derived.Test.YtgimnkablodheaaDoorPlX
import Derived.Test.YtgimnkablodheaaDoorPlActs
namespace Go.Proofs.YtgimnkablodheaaDoor
open Go.RowKit
set_option linter.unusedVariables false

/-- What an act leaves. -/
def actT (t : PS) (x : ActV) : PS := if x.d = 0 then wrT t (plcK x.a x.n) x.v else if x.d = 1 then rdT t (plcK x.a x.n) else if x.d = 2 then levelP t x.s x.u else t
def BothEnd (w : World) (c d : Nat) (t' : PS) (e : Ending) (w' : World) : Prop := e = .returned (.bool true) ∧ Only (fun i => i = c ∨ i = d) w w' ∧ ProgP w' c t' ∧ RefP w' d t'
def actVal (x : ActV) : Value := .agg #[.int .i64 x.d, .int .u64 x.a, .int .i64 x.n, .int .u64 x.v, .int .i64 x.s, .bool x.u]
theorem only_c {c d : Nat} {a b : World} (h : Only (fun i => i = c) a b) : Only (fun i => i = c ∨ i = d) a b := h.mono fun i hi => .inl (.inl hi)
theorem only_d {c d : Nat} {a b : World} (h : Only (fun i => i = d) a b) : Only (fun i => i = c ∨ i = d) a b := h.mono fun i hi => .inl (.inr hi)
theorem only_cell {S : Nat → Prop} {w w' : World} (k : Only S w w') {b o : Nat} (hn : ¬ S b) {v : Value} (h : w.cell? ⟨b, o, none⟩ = some v) : w'.cell? ⟨b, o, none⟩ = some v := by
  have hb : b < w.heap.size := block_lt h
  have e := k.block b hb hn
  unfold World.cell? at *
  simp only [e] at *
  exact h
theorem run_refRow {w : World} {b : Nat} {row : Array Value} (h : w.heap[b]? = some (.cells row 45 (0, 0))) (hs : row.size = 194) : (loadVar 45 ⟨b, 0, none⟩).run Tryd.prog w = .ok (.agg row) w :=
  run_loadVar_row w b 45 45 row (0, 0) _ h Tryd.underlying45 rfl (size_refP.trans (by rw [hs]))
structure BoxP (w w1 : World) (c d : Nat) (t : PS) (x : ActV) (bx : Nat) : Prop where
  new : bx = w.heap.size
  pc : ProgP w1 c t
  rd : RefP w1 d t
  tab : Tab w1
  only : Only (fun i => i = c ∨ i = d) w w1
  lt : bx < w1.heap.size
  g0 : w1.cell? ⟨bx, 0, none⟩ = some (.int .i64 x.d)
  g1 : w1.cell? ⟨bx, 1, none⟩ = some (.int .u64 x.a)
  g2 : w1.cell? ⟨bx, 2, none⟩ = some (.int .i64 x.n)
  g3 : w1.cell? ⟨bx, 3, none⟩ = some (.int .u64 x.v)
  g4 : w1.cell? ⟨bx, 4, none⟩ = some (.int .i64 x.s)
  g5 : w1.cell? ⟨bx, 5, none⟩ = some (.bool x.u)
theorem boxed {w : World} {c d : Nat} {t : PS} (x : ActV) (hc : ProgP w c t) (hd : RefP w d t) (ht : Tab w) : BoxP w (w.alloc (.cells #[.int .i64 x.d, .int .u64 x.a, .int .i64 x.n, .int .u64 x.v, .int .i64 x.s, .bool x.u] 47)) c d t x w.heap.size := by
  have k := (Below.refl w.heap.size w).alloc (Nat.le_refl _) (.cells #[.int .i64 x.d, .int .u64 x.a, .int .i64 x.n, .int .u64 x.v, .int .i64 x.s, .bool x.u] 47)
  have H0 := heap_alloc_new w (.cells #[.int .i64 x.d, .int .u64 x.a, .int .i64 x.n, .int .u64 x.v, .int .i64 x.s, .bool x.u] 47)
  refine ⟨rfl, hc.below k, hd.below k, ht.below k, Only.of_below _ k, by rw [World.size_alloc]; omega, ?_, ?_, ?_, ?_, ?_, ?_⟩ <;> (rw [cell_of_row _ _ _ _ _ _ H0]; rfl)
/-- Behind a turn of one of the two. -/
theorem BoxP.later {w w1 w2 : World} {c d : Nat} {t t' : PS} {x : ActV} {bx : Nat} (h : BoxP w w1 c d t x bx) (hcb : c < w.heap.size) (hdb : d < w.heap.size) (k : Only (fun i => i = c ∨ i = d) w1 w2) (ht : Tab w2) (hp : ProgP w2 c t') (hr : RefP w2 d t') : BoxP w w2 c d t' x bx := by
  have hn := h.new
  have nb : ¬ (bx = c ∨ bx = d) := by omega
  exact ⟨hn, hp, hr, ht, h.only.trans k, Nat.lt_of_lt_of_le h.lt k.size, only_cell k nb h.g0, only_cell k nb h.g1, only_cell k nb h.g2, only_cell k nb h.g3, only_cell k nb h.g4, only_cell k nb h.g5⟩

set_option maxRecDepth 100000 in
set_option maxHeartbeats 4000000 in
theorem both_write (w : World) (c d : Nat) (t : PS) (x : ActV) (hc : ProgP w c t) (hd : RefP w d t) (ht : Tab w) (hcd : ¬ c = d) (h0c : ¬ c = 0) (r1 : In64 x.a) (r3 : In64 x.v) (hdo : x.d = 0) :
    Calls Tryd.prog 15 #[.pointer (some ⟨c, 0, none⟩), .pointer (some ⟨d, 0, none⟩), actVal x] w (BothEnd w c d (wrT t (plcK x.a x.n) x.v)) := by
  have HX := Lib.hid (boxed x hc hd ht)
  have hcb := hc.lt
  have hdb := hd.lt
  have R1 := Lib.hid r1
  have R3 := Lib.hid r3
  obtain ⟨xd, xa, xn, xv, xs, xu⟩ := x
  unfold actVal
  simp only at HX R1 R3 hdo ⊢
  clear hc hd ht r1 r3
  subst hdo
  go_enter Tryd.func15, Tryd.ntmps15
  go_wp2_with fail
  generalize w.alloc (.cells #[.int .i64 0, .int .u64 xa, .int .i64 xn, .int .u64 xv, .int .i64 xs, .bool xu] 47) = w1 at *
  obtain ⟨bx, hbx⟩ : ∃ bx, w.heap.size = bx := ⟨_, rfl⟩
  rw [hbx] at HX ⊢
  clear hbx
  (with_reducible refine (write_any w1 c t HX.out.pc HX.out.tab xa xn xv R1.out R3.out).mono ?_)
  rintro e w2 ⟨rfl, ho, hp⟩
  have HP := Lib.hid hp
  have HO := Lib.hid ho
  have HD : Hid (RefP w2 d t) := Lib.hid (HX.out.rd.keeps ho (fun e => hcd e.symm))
  have hnb : ¬ bx = c := by have := HX.out.new; omega
  have g1 := only_cell ho hnb HX.out.g1
  have g2 := only_cell ho hnb HX.out.g2
  have g3 := only_cell ho hnb HX.out.g3
  clear ho hp
  go_wp2_with fail
  (with_reducible refine (refWrite_any w2 d t HD.out xa xn xv R1.out R3.out).mono ?_)
  rintro e w3 ⟨rfl, ho, hp⟩
  have HR3 := Lib.hid hp
  have HP3 : Hid (ProgP w3 c (wrT t (plcK xa xn) xv)) := Lib.hid (HP.out.keeps ho hcd)
  have HO3 : Hid (Only (fun i => i = c ∨ i = d) w w3) := Lib.hid (HX.out.only.trans ((only_c HO.out).trans (only_d ho)))
  clear ho hp
  generalize wrT t (plcK xa xn) xv = t2 at *
  go_wp2
  go_ret
  exact ⟨by simp, HO3.out, HP3.out, HR3.out⟩

set_option maxRecDepth 100000 in
set_option maxHeartbeats 4000000 in
theorem both_read (w : World) (c d : Nat) (t : PS) (x : ActV) (hc : ProgP w c t) (hd : RefP w d t) (ht : Tab w) (hcd : ¬ c = d) (h0c : ¬ c = 0) (r1 : In64 x.a) (r3 : In64 x.v) (hdo : x.d = 1) :
    Calls Tryd.prog 15 #[.pointer (some ⟨c, 0, none⟩), .pointer (some ⟨d, 0, none⟩), actVal x] w (BothEnd w c d (rdT t (plcK x.a x.n))) := by
  have HX := Lib.hid (boxed x hc hd ht)
  have hcb := hc.lt
  have hdb := hd.lt
  have R1 := Lib.hid r1
  have R3 := Lib.hid r3
  obtain ⟨xd, xa, xn, xv, xs, xu⟩ := x
  unfold actVal
  simp only at HX R1 R3 hdo ⊢
  clear hc hd ht r1 r3
  subst hdo
  go_enter Tryd.func15, Tryd.ntmps15
  go_wp2_with fail
  generalize w.alloc (.cells #[.int .i64 1, .int .u64 xa, .int .i64 xn, .int .u64 xv, .int .i64 xs, .bool xu] 47) = w1 at *
  obtain ⟨bx, hbx⟩ : ∃ bx, w.heap.size = bx := ⟨_, rfl⟩
  rw [hbx] at HX ⊢
  clear hbx
  (with_reducible refine (read_any w1 c t HX.out.pc HX.out.tab xa xn R1.out).mono ?_)
  rintro e w2 ⟨rfl, ho, hp⟩
  have HP := Lib.hid hp
  have HO := Lib.hid ho
  have HD : Hid (RefP w2 d t) := Lib.hid (HX.out.rd.keeps ho (fun e => hcd e.symm))
  have hnb : ¬ bx = c := by have := HX.out.new; omega
  have g1 := only_cell ho hnb HX.out.g1
  have g2 := only_cell ho hnb HX.out.g2
  clear ho hp
  go_wp2_with fail
  (with_reducible refine (refRead_any w2 d t HD.out xa xn R1.out).mono ?_)
  rintro e w3 ⟨rfl, ho, hp⟩
  have HR3 := Lib.hid hp
  have HP3 : Hid (ProgP w3 c (rdT t (plcK xa xn))) := Lib.hid (HP.out.keeps ho hcd)
  have HO3 : Hid (Only (fun i => i = c ∨ i = d) w w3) := Lib.hid (HX.out.only.trans ((only_c HO.out).trans (only_d ho)))
  clear ho hp
  generalize rdT t (plcK xa xn) = t2 at *
  generalize rdX t (plcK xa xn) = X at *
  generalize okP (plcK xa xn) = r at *
  go_wp2
  go_ret
  exact ⟨by simp, HO3.out, HP3.out, HR3.out⟩

set_option maxRecDepth 100000 in
set_option maxHeartbeats 4000000 in
theorem both_level (w : World) (c d : Nat) (t : PS) (x : ActV) (hc : ProgP w c t) (hd : RefP w d t) (ht : Tab w) (hcd : ¬ c = d) (h0c : ¬ c = 0) (r1 : In64 x.a) (r3 : In64 x.v) (hdo : x.d = 2) :
    Calls Tryd.prog 15 #[.pointer (some ⟨c, 0, none⟩), .pointer (some ⟨d, 0, none⟩), actVal x] w (BothEnd w c d (levelP t x.s x.u)) := by
  have HX := Lib.hid (boxed x hc hd ht)
  have hcb := hc.lt
  have hdb := hd.lt
  have R1 := Lib.hid r1
  have R3 := Lib.hid r3
  obtain ⟨xd, xa, xn, xv, xs, xu⟩ := x
  unfold actVal
  simp only at HX R1 R3 hdo ⊢
  clear hc hd ht r1 r3
  subst hdo
  go_enter Tryd.func15, Tryd.ntmps15
  go_wp2_with fail
  generalize w.alloc (.cells #[.int .i64 2, .int .u64 xa, .int .i64 xn, .int .u64 xv, .int .i64 xs, .bool xu] 47) = w1 at *
  obtain ⟨bx, hbx⟩ : ∃ bx, w.heap.size = bx := ⟨_, rfl⟩
  rw [hbx] at HX ⊢
  clear hbx
  (with_reducible refine (level_any w1 c t xs xu HX.out.pc).mono ?_)
  rintro e w2 ⟨rfl, ho, hp⟩
  have HP := Lib.hid hp
  have HO := Lib.hid ho
  have hnb : ¬ bx = c := by have := HX.out.new; omega
  have hnd : ¬ bx = d := by have := HX.out.new; omega
  have g4 := only_cell ho hnb HX.out.g4
  have g5 := only_cell ho hnb HX.out.g5
  have hD0 : RefP w2 d t := HX.out.rd.keeps ho (fun e => hcd e.symm)
  have HD : Hid (RefP w2.drew d t) := Lib.hid hD0
  clear ho hp hD0
  go_wp2_with fail
  refine wp_region_held_drew (S := fun wx => Only (fun i => i = d) w2 wx) (by kernel_rfl) ((Only.refl _ _).drewN 1) (fun hHeld0 => ?_)
  have HS := Lib.hid hHeld0
  clear hHeld0
  refine takeD (i := 0) (some 71) (v := ?_) rfl rfl (by kernel_rfl) (by kernel_rfl) (by kernel_rfl) (fun _ _ _ h => h) (by rfl) HS.out ?_ ?_
  rotate_left
  · intro wx hSx
    clear hSx
    go_simp
    try (with_reducible rfl)
  simp only [Act.put, List.setIfInBounds_toArray, List.set_cons_zero, List.set_cons_succ]
  refine takeD (i := 1) (some 72) (v := ?_) rfl rfl (by kernel_rfl) (by kernel_rfl) (by kernel_rfl) (fun _ _ _ h => h) (by rfl) HS.out ?_ ?_
  rotate_left
  · intro wx hSx
    clear hSx
    go_simp
    try (with_reducible rfl)
  simp only [Act.put, List.setIfInBounds_toArray, List.set_cons_zero, List.set_cons_succ]
  refine takeD (i := 2) (some 73) (v := ?_) rfl rfl (by kernel_rfl) (by kernel_rfl) (by kernel_rfl) (fun _ _ _ h => h) (by rfl) HS.out ?_ ?_
  rotate_left
  · intro wx hSx
    clear hSx
    go_simp
    try (with_reducible rfl)
  simp only [Act.put, List.setIfInBounds_toArray, List.set_cons_zero, List.set_cons_succ]
  refine takeD (i := 3) (some 74) (v := ?_) rfl rfl (by kernel_rfl) (by kernel_rfl) (by kernel_rfl) (fun _ _ _ h => h) (by rfl) HS.out ?_ ?_
  rotate_left
  · intro wx hSx
    have q4 := only_cell hSx hnd g4
    clear hSx
    go_simp
    try (with_reducible rfl)
  simp only [Act.put, List.setIfInBounds_toArray, List.set_cons_zero, List.set_cons_succ]
  refine takeD (i := 4) (some 75) (v := ?_) rfl rfl (by kernel_rfl) (by kernel_rfl) (by kernel_rfl) (fun _ _ _ h => h) (by rfl) HS.out ?_ ?_
  rotate_left
  · intro wx hSx
    clear hSx
    go_simp
    try (with_reducible rfl)
  simp only [Act.put, List.setIfInBounds_toArray, List.set_cons_zero, List.set_cons_succ]
  refine takeD (i := 5) (some 76) (v := ?_) rfl rfl (by kernel_rfl) (by kernel_rfl) (by kernel_rfl) (fun _ _ _ h => h) (by rfl) HS.out ?_ ?_
  rotate_left
  · intro wx hSx
    have q5 := only_cell hSx hnd g5
    clear hSx
    go_simp
    try (with_reducible rfl)
  simp only [Act.put, List.setIfInBounds_toArray, List.set_cons_zero, List.set_cons_succ]
  refine wpAnyH_ready (rs := [6]) (by kernel_rfl) (by simp) ?_
  refine AllReadyH.cons rfl (fun K hK => ?_) AllReadyH.nil
  go_simp
  (with_reducible refine (refLevel_any _ d t xs xu HD.out).mono ?_)
  rintro e w3 ⟨rfl, ho, hp⟩
  have HS3 : Hid (Only (fun i => i = d) w2 w3) := Lib.hid (HS.out.trans ho)
  have HR3 := Lib.hid hp
  clear ho hp
  go_simp
  refine hK.out _ _ ?_ (fun hHeld => ?_)
  · exact HS3.out
  clear hHeld hK K
  try simp only [Act.put, List.setIfInBounds_toArray, List.set_cons_zero, List.set_cons_succ]
  replace HS := HS3
  refine wpAnyH_more (T := fun wx => Below w3.heap.size w3 wx) (fun wx hx => HS.out.thenBelow hx) _ _ _ _ ?_
  replace HS := Lib.hid (Below.refl w3.heap.size w3)
  have HPC : Hid (∀ wx, Below w3.heap.size w3 wx → (loadVar 27 ⟨c, 0, none⟩).run Tryd.prog wx = .ok (progPV (levelP t xs xu)) wx) := Lib.hid fun wx hx => run_progRow (((HP.out.keeps HS3.out hcd).below hx).1) (varr_size _ _)
  have HPD : Hid (∀ wx, Below w3.heap.size w3 wx → (loadVar 45 ⟨d, 0, none⟩).run Tryd.prog wx = .ok (refPV (levelP t xs xu)) wx) := Lib.hid fun wx hx => run_refRow (HR3.out.below hx) (varr_size _ _)
  have HOK : Hid ((levelP t xs xu).ok) := Lib.hid HP.out.2
  have HG4 : Hid (∀ wx, Below w3.heap.size w3 wx → wx.cell? ⟨bx, 4, none⟩ = some (.int .i64 xs)) := Lib.hid fun wx hx => (hx.cell (p := ⟨bx, 4, none⟩) (block_lt (only_cell HS3.out hnd g4))).trans (only_cell HS3.out hnd g4)
  have HUC : Hid (∀ wx, Calls Tryd.prog 18 #[progPV (levelP t xs xu), .int .i64 xs] wx fun e w' => e = .returned (.bool (upT (levelP t xs xu) xs)) ∧ Below wx.heap.size wx w') := Lib.hid fun wx => up_any wx _ HOK.out xs
  have HUD : Hid (∀ wx, Calls Tryd.prog 19 #[refPV (levelP t xs xu), .int .i64 xs] wx fun e w' => e = .returned (.bool (upT (levelP t xs xu) xs)) ∧ Below wx.heap.size wx w') := Lib.hid fun wx => refUp_any wx _ xs
  unfold progPV at HPC HUC
  unfold refPV at HPD HUD
  generalize varr 39 (cellQ (levelP t xs xu)) = rc at HPC HUC
  generalize varr 194 (cellR (levelP t xs xu)) = rd at HPD HUD
  refine takeD (i := 7) (some 78) (v := ?_) rfl rfl (by kernel_rfl) (by kernel_rfl) (by kernel_rfl) (fun _ _ _ h => h) (by rfl) HS.out ?_ ?_
  rotate_left
  · intro wx hSx
    clear hSx
    go_simp
    try (with_reducible rfl)
  simp only [Act.put, List.setIfInBounds_toArray, List.set_cons_zero, List.set_cons_succ]
  refine takeD (i := 8) (some 79) (v := ?_) rfl rfl (by kernel_rfl) (by kernel_rfl) (by kernel_rfl) (fun _ _ _ h => h) (by rfl) HS.out ?_ ?_
  rotate_left
  · intro wx hSx
    clear hSx
    go_simp
    try (with_reducible rfl)
  simp only [Act.put, List.setIfInBounds_toArray, List.set_cons_zero, List.set_cons_succ]
  refine takeD (i := 9) (some 80) (v := ?_) rfl rfl (by kernel_rfl) (by kernel_rfl) (by kernel_rfl) (fun _ _ _ h => h) (by rfl) HS.out ?_ ?_
  rotate_left
  · intro wx hSx
    clear hSx
    go_simp
    try (with_reducible rfl)
  simp only [Act.put, List.setIfInBounds_toArray, List.set_cons_zero, List.set_cons_succ]
  refine takeD (i := 10) (some 81) (v := ?_) rfl rfl (by kernel_rfl) (by kernel_rfl) (by kernel_rfl) (fun _ _ _ h => h) (by rfl) HS.out ?_ ?_
  rotate_left
  · intro wx hSx
    clear hSx
    go_simp
    try (with_reducible rfl)
  simp only [Act.put, List.setIfInBounds_toArray, List.set_cons_zero, List.set_cons_succ]
  refine takeD (i := 11) (some 82) (v := ?_) rfl rfl (by kernel_rfl) (by kernel_rfl) (by kernel_rfl) (fun _ _ _ h => h) (by rfl) HS.out ?_ ?_
  rotate_left
  · intro wx hSx
    exact (by refine yield_row _ (.tmp 81) ?_ c ?_ (HPC.out wx hSx) <;> rfl)
  simp only [Act.put, List.setIfInBounds_toArray, List.set_cons_zero, List.set_cons_succ]
  refine takeD (i := 12) (some 83) (v := ?_) rfl rfl (by kernel_rfl) (by kernel_rfl) (by kernel_rfl) (fun _ _ _ h => h) (by rfl) HS.out ?_ ?_
  rotate_left
  · intro wx hSx
    clear hSx
    go_simp
    try (with_reducible rfl)
  simp only [Act.put, List.setIfInBounds_toArray, List.set_cons_zero, List.set_cons_succ]
  refine takeD (i := 13) (some 84) (v := ?_) rfl rfl (by kernel_rfl) (by kernel_rfl) (by kernel_rfl) (fun _ _ _ h => h) (by rfl) HS.out ?_ ?_
  rotate_left
  · intro wx hSx
    have q4 := HG4.out wx hSx
    clear hSx
    go_simp
    try (with_reducible rfl)
  simp only [Act.put, List.setIfInBounds_toArray, List.set_cons_zero, List.set_cons_succ]
  refine takeD (i := 15) (some 86) (v := ?_) rfl rfl (by kernel_rfl) (by kernel_rfl) (by kernel_rfl) (fun _ _ _ h => h) (by rfl) HS.out ?_ ?_
  rotate_left
  · intro wx hSx
    clear hSx
    go_simp
    try (with_reducible rfl)
  simp only [Act.put, List.setIfInBounds_toArray, List.set_cons_zero, List.set_cons_succ]
  refine takeD (i := 16) (some 87) (v := ?_) rfl rfl (by kernel_rfl) (by kernel_rfl) (by kernel_rfl) (fun _ _ _ h => h) (by rfl) HS.out ?_ ?_
  rotate_left
  · intro wx hSx
    clear hSx
    go_simp
    try (with_reducible rfl)
  simp only [Act.put, List.setIfInBounds_toArray, List.set_cons_zero, List.set_cons_succ]
  refine takeD (i := 17) (some 88) (v := ?_) rfl rfl (by kernel_rfl) (by kernel_rfl) (by kernel_rfl) (fun _ _ _ h => h) (by rfl) HS.out ?_ ?_
  rotate_left
  · intro wx hSx
    exact (by refine yield_row _ (.tmp 87) ?_ d ?_ (HPD.out wx hSx) <;> rfl)
  simp only [Act.put, List.setIfInBounds_toArray, List.set_cons_zero, List.set_cons_succ]
  refine takeD (i := 18) (some 89) (v := ?_) rfl rfl (by kernel_rfl) (by kernel_rfl) (by kernel_rfl) (fun _ _ _ h => h) (by rfl) HS.out ?_ ?_
  rotate_left
  · intro wx hSx
    clear hSx
    go_simp
    try (with_reducible rfl)
  simp only [Act.put, List.setIfInBounds_toArray, List.set_cons_zero, List.set_cons_succ]
  refine takeD (i := 19) (some 90) (v := ?_) rfl rfl (by kernel_rfl) (by kernel_rfl) (by kernel_rfl) (fun _ _ _ h => h) (by rfl) HS.out ?_ ?_
  rotate_left
  · intro wx hSx
    have q4 := HG4.out wx hSx
    clear hSx
    go_simp
    try (with_reducible rfl)
  simp only [Act.put, List.setIfInBounds_toArray, List.set_cons_zero, List.set_cons_succ]
  refine wpAnyH_ready (rs := [14]) (by kernel_rfl) (by simp) ?_
  refine AllReadyH.cons rfl (fun K hK => ?_) AllReadyH.nil
  go_simp
  (with_reducible refine (HUC.out _).mono ?_)
  rintro e w4 ⟨rfl, hb⟩
  have HS4 : Hid (Below w3.heap.size w3 w4) := Lib.hid (HS.out.trans (hb.mono HS.out.size))
  clear hb
  go_simp
  refine hK.out _ _ ?_ (fun hHeld => ?_)
  · exact HS4.out
  clear hHeld hK K
  try simp only [Act.put, List.setIfInBounds_toArray, List.set_cons_zero, List.set_cons_succ]
  replace HS := HS4
  refine wpAnyH_ready (rs := [20]) (by kernel_rfl) (by simp) ?_
  refine AllReadyH.cons rfl (fun K hK => ?_) AllReadyH.nil
  go_simp
  (with_reducible refine (HUD.out _).mono ?_)
  rintro e w5 ⟨rfl, hb⟩
  have HS5 : Hid (Below w3.heap.size w3 w5) := Lib.hid (HS.out.trans (hb.mono HS.out.size))
  clear hb
  go_simp
  refine hK.out _ _ ?_ (fun hHeld => ?_)
  · exact HS5.out
  clear hHeld hK K
  try simp only [Act.put, List.setIfInBounds_toArray, List.set_cons_zero, List.set_cons_succ]
  replace HS := HS5
  refine takeD (i := 21) (some 92) (v := ?_) rfl rfl (by kernel_rfl) (by kernel_rfl) (by kernel_rfl) (fun _ _ _ h => h) (by rfl) HS.out ?_ ?_
  rotate_left
  · intro wx hSx
    clear hSx
    go_simp
    try (with_reducible rfl)
  simp only [Act.put, List.setIfInBounds_toArray, List.set_cons_zero, List.set_cons_succ]
  refine takeD (i := 22) (some 93) (v := ?_) rfl rfl (by kernel_rfl) (by kernel_rfl) (by kernel_rfl) (fun _ _ _ h => h) (by rfl) HS.out ?_ ?_
  rotate_left
  · intro wx hSx
    clear hSx
    go_simp
    try (with_reducible rfl)
  simp only [Act.put, List.setIfInBounds_toArray, List.set_cons_zero, List.set_cons_succ]
  refine takeD (i := 23) (some 6) (v := ?_) rfl rfl (by kernel_rfl) (by kernel_rfl) (by kernel_rfl) (fun _ _ _ h => h) (by rfl) HS.out ?_ ?_
  rotate_left
  · intro wx hSx
    clear hSx
    go_simp
    try (with_reducible rfl)
  simp only [Act.put, List.setIfInBounds_toArray, List.set_cons_zero, List.set_cons_succ]
  refine wpAnyH_done (by kernel_rfl) ?_ _
  go_wp2
  go_ret
  exact ⟨by simp, HX.out.only.trans ((only_c HO.out).trans ((only_d HS3.out).thenBelow HS.out)), (HP.out.keeps HS3.out hcd).below HS.out, HR3.out.below HS.out⟩

set_option maxRecDepth 100000 in
set_option maxHeartbeats 4000000 in
theorem both_no (w : World) (c d : Nat) (t : PS) (x : ActV) (hc : ProgP w c t) (hd : RefP w d t) (ht : Tab w) (hcd : ¬ c = d) (h0c : ¬ c = 0) (r1 : In64 x.a) (r3 : In64 x.v) (h0 : ¬ x.d = 0) (h1 : ¬ x.d = 1) (h2 : ¬ x.d = 2) :
    Calls Tryd.prog 15 #[.pointer (some ⟨c, 0, none⟩), .pointer (some ⟨d, 0, none⟩), actVal x] w (BothEnd w c d t) := by
  have HX := Lib.hid (boxed x hc hd ht)
  have hcb := hc.lt
  have hdb := hd.lt
  have R1 := Lib.hid r1
  have R3 := Lib.hid r3
  obtain ⟨xd, xa, xn, xv, xs, xu⟩ := x
  unfold actVal
  simp only at HX R1 R3 h0 h1 h2 ⊢
  clear hc hd ht r1 r3
  have e0 := neB h0
  have e1 := neB h1
  have e2 := neB h2
  clear h0 h1 h2
  go_enter Tryd.func15, Tryd.ntmps15
  go_wp2
  go_ret
  exact ⟨rfl, HX.out.only, HX.out.pc, HX.out.rd⟩

theorem both_any (w : World) (c d : Nat) (t : PS) (x : ActV) (hc : ProgP w c t) (hd : RefP w d t) (ht : Tab w) (hcd : ¬ c = d) (h0c : ¬ c = 0) (r1 : In64 x.a) (r3 : In64 x.v) :
    Calls Tryd.prog 15 #[.pointer (some ⟨c, 0, none⟩), .pointer (some ⟨d, 0, none⟩), actVal x] w (BothEnd w c d (actT t x)) := by
  unfold actT
  by_cases h0 : x.d = 0
  · rw [if_pos h0]; exact both_write w c d t x hc hd ht hcd h0c r1 r3 h0
  by_cases h1 : x.d = 1
  · rw [if_neg h0, if_pos h1]; exact both_read w c d t x hc hd ht hcd h0c r1 r3 h1
  by_cases h2 : x.d = 2
  · rw [if_neg h0, if_neg h1, if_pos h2]; exact both_level w c d t x hc hd ht hcd h0c r1 r3 h2
  rw [if_neg h0, if_neg h1, if_neg h2]; exact both_no w c d t x hc hd ht hcd h0c r1 r3 h0 h1 h2

end Go.Proofs.YtgimnkablodheaaDoor
