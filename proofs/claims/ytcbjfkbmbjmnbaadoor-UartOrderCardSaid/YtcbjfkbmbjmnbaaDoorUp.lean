/- Layer 6: the document's uart: Write. -/
import Derived.Test.YtcbjfkbmbjmnbaaDoorUo
namespace Go.Proofs.YtcbjfkbmbjmnbaaDoor
open Go.RowKit
set_option linter.unusedVariables false

def Room (m : Nat) : Prop := m < 65536
def NoRoom (m : Nat) : Prop := ¬ m < 65536
theorem Room.dec {m : Nat} (h : Room m) : decide ((m : Int) < 65536) = true := by unfold Room at h; rw [decide_eq_true_eq]; omega
theorem NoRoom.dec {m : Nat} (h : NoRoom m) : decide ((m : Int) < 65536) = false := by unfold NoRoom at h; rw [decide_eq_false_iff_not]; omega

set_option maxRecDepth 100000 in
set_option maxHeartbeats 4000000 in
theorem refWrite_0 (w : World) (b : Nat) (F : Nat → Prop) (t : US) (vi vo : Value) (h : HR w b F t vi vo) (off n v : Int) (hv : In64 v) (hk : plK t off n = 0) :
    Calls Tryd.prog 22 #[.pointer (some ⟨b, 0, none⟩), .int .u64 off, .int .i64 n, .int .u64 v] w (TellR w b F (.bool true) (wrT t (v % 256) 0)) := by
  have v0 := hv.1
  have x0 : 0 ≤ v % 256 := by omega
  have x1 : v % 256 < 256 := by omega
  have hw' : IntKind.u8.wrap (v % 256) = v % 256 := by rw [wrap8 _ x0]; omega
  have OK := Lib.hid (wrT_ok h.ok (v % 256) x0 x1 0)
  obtain ⟨x, hvx⟩ : ∃ x, v % 256 = x := ⟨_, rfl⟩
  rw [hvx] at x0 x1 hw' OK ⊢
  clear hv
  obtain ⟨rfl, rfl, hL⟩ := plK_inv hk (by decide)
  have hL := hL (by decide)
  change Calls _ _ #[_, .int .u64 0, _, _] _ _
  clear hk
  have hlo := h.ok.lo
  have c4 := h.cell 4 (v := .int .u8 t.lcr) rfl
  obtain ⟨a, c, hvo, hnc, hcm, hr⟩ := h.ro.reads (by omega)
  subst hvo
  have c1 := h.cell 1 (v := .slice a t.out.length c) rfl
  have c10 := h.cell 10 (v := .bool t.sent) rfl
  have f1 := h.free 1
  have f10 := h.free 10
  change Calls _ _ _ _ (TellR w b F (.bool true) (sendT t x))
  replace OK : Hid (sendT t x).ok := OK
  by_cases hlt : t.out.length < 65536
  · have h2 := h.below (below_alloc w (.cells #[.int .u8 x] 5))
    obtain ⟨v', w', hrun, hR, hO, hv⟩ := run_push (w.alloc (.cells #[.int .u8 x] 5)) _ t.out h2.ro (by omega) w.heap.size 0 x 1 (new_cell w _ _) ⟨x0, x1⟩ 28
    obtain ⟨a2, k2, hv2, _, _, _⟩ := hR.reads (by simp; omega)
    have hl2 : (t.out ++ [x]).length = t.out.length + 1 := by simp
    rw [hl2] at hv2
    subst hv2
    have E1 : EndU cellsR 42 w b F { t with out := t.out ++ [x] } (w'.setCell ⟨b, 1, none⟩ (.slice a2 (t.out.length + 1) k2)) := by
      have k := EndU.turnOut (t' := { t with out := t.out ++ [x] }) h2 hO hR hv rfl ⟨h.ok.li, by simp; omega, h.ok.ier, h.ok.fcr, h.ok.lcr, h.ok.mcr, h.ok.scr, h.ok.dl, h.ok.dm⟩ rfl
      exact EndU.step (Only.of_below F (below_alloc w _)) (fun i hi => .inl hi) k
    have HE1 := Lib.hid E1
    have f1' : w'.frozen? ⟨b, 1, none⟩ = false := (World.frozen?_of_block (hO.block b (Nat.lt_of_lt_of_le h.blt (below_alloc w _).size) (fun e => (h2.fo b e).2 rfl))).trans (h2.free 1)
    have d1' : ∃ v, w'.cell? ⟨b, 1, none⟩ = some v := ⟨_, (World.cell?_of_block (hO.block b (Nat.lt_of_lt_of_le h.blt (below_alloc w _).size) (fun e => (h2.fo b e).2 rfl))).trans (h2.cell 1 rfl)⟩
    obtain ⟨v1, d1'⟩ := d1'
    have hT : sendT t x = { { t with out := t.out ++ [x] } with sent := true } := by unfold sendT; rw [if_pos hlt]
    rw [hT] at OK ⊢
    have HRUN := Lib.hid hrun
    have hd : decide ((t.out.length : Int) < 65536) = true := by rw [decide_eq_true_eq]; omega
    have HDD : Room t.out.length := hlt
    clear hT h h2 hR hO hv hr E1 hrun hlo hlt hd
    generalize t.out.length = m at *
    go_enter Tryd.func22, Tryd.ntmps22
    go_upto_region 10 with (fail)
    have hd := HDD.dec
    clear hvx hw'
    go_upto_region 12 with ((at_builtin; refine wpList_append_run rfl _ _ _ rfl (.slice a m c) (.slice (some ⟨w.heap.size, 0, none⟩) 1 1) (.slice a2 (m + 1) k2) w' rfl rfl HRUN.out ?_))
    obtain ⟨ho, F1, hF1, vi1, vo1, h1⟩ := HE1.out
    generalize w'.setCell ⟨b, 1, none⟩ (.slice a2 (m + 1) k2) = w1 at *
    have H1 := Lib.hid h1
    have HO1 := Lib.hid ho
    have HF1 := Lib.hid hF1
    have f3b := h1.free 10
    have e3 := h1.cell 10 (v := .bool t.sent) rfl
    clear h1 ho hF1 HE1 d1' f1' f1 f10 HRUN hnc hcm hd c1 c10 c4
    go_wp2
    go_ret
    exact ⟨rfl, EndU.step HO1.out HF1.out (EndU.set H1.out 10 (.bool true) rfl rfl OK.out rfl)⟩
  · have hd : decide ((t.out.length : Int) < 65536) = false := by rw [decide_eq_false_iff_not]; omega
    have hT : sendT t x = { t with sent := true } := by unfold sendT; rw [if_neg hlt]
    have H := Lib.hid h
    rw [hT] at OK ⊢
    have HDD : NoRoom t.out.length := hlt
    clear hT h hr hlt hlo hnc hcm hd
    generalize t.out.length = m at *
    go_enter Tryd.func22, Tryd.ntmps22
    go_upto_region 10 with (fail)
    have hd := HDD.dec
    clear hvx hw'
    go_wp2
    go_ret
    exact ⟨rfl, EndU.set H.out 10 (.bool true) rfl rfl OK.out rfl⟩

set_option maxRecDepth 100000 in
set_option maxHeartbeats 4000000 in
theorem refWrite_1 (w : World) (b : Nat) (F : Nat → Prop) (t : US) (vi vo : Value) (h : HR w b F t vi vo) (off n v : Int) (hv : In64 v) (hk : plK t off n = 1) :
    Calls Tryd.prog 22 #[.pointer (some ⟨b, 0, none⟩), .int .u64 off, .int .i64 n, .int .u64 v] w (TellR w b F (.bool true) (wrT t (v % 256) 1)) := by
  have v0 := hv.1
  have x0 : 0 ≤ v % 256 := by omega
  have x1 : v % 256 < 256 := by omega
  have hw' : IntKind.u8.wrap (v % 256) = v % 256 := by rw [wrap8 _ x0]; omega
  have OK := Lib.hid (wrT_ok h.ok (v % 256) x0 x1 1)
  obtain ⟨x, hvx⟩ : ∃ x, v % 256 = x := ⟨_, rfl⟩
  rw [hvx] at x0 x1 hw' OK ⊢
  clear hv
  obtain ⟨rfl, rfl, hL⟩ := plK_inv hk (by decide)
  have hL := hL (by decide)
  change Calls _ _ #[_, .int .u64 1, _, _] _ _
  clear hk
  have c4 := h.cell 4 (v := .int .u8 t.lcr) rfl
  have c2 := h.cell 2 (v := .int .u8 t.ier) rfl
  have c10 := h.cell 10 (v := .bool t.sent) rfl
  have f2 := h.free 2
  have f10 := h.free 10
  obtain ⟨i0, i1⟩ := h.ok.ier
  change Calls _ _ _ _ (TellR w b F (.bool true) (ierT t x))
  replace OK : Hid (ierT t x).ok := OK
  by_cases hA : t.ier / 2 % 2 = 1
  · have hT := ierT_0 (t := t) (x := x) (fun h => h.1 hA)
    have H := Lib.hid h
    rw [hT] at OK ⊢
    clear hT h
    generalize t.ier = i at *
    go_enter Tryd.func22, Tryd.ntmps22
    go_wp2
    go_ret
    exact ⟨rfl, EndU.set H.out 2 (.int .u8 (x % 16)) rfl rfl OK.out rfl⟩
  · have ha : t.ier / 2 % 2 = 0 := by omega
    by_cases hB : x / 2 % 2 = 1
    · have hT := ierT_1 (t := t) (x := x) hA hB
      have H1 := Lib.hid (h.set 10 (.bool true) (t' := { t with sent := true }) rfl rfl (ok_sent h.ok true) rfl)
      have HO1 := Lib.hid ((Only.refl F w).setCell (p := ⟨b, 10, none⟩) (.inl h.fb) (.bool true))
      rw [hT] at OK ⊢
      clear hT h hA
      generalize t.ier = i at *
      go_enter Tryd.func22, Tryd.ntmps22
      go_wp2
      go_ret
      exact ⟨rfl, EndU.step HO1.out (fun i hi => .inl hi) (EndU.set H1.out 2 (.int .u8 (x % 16)) rfl rfl OK.out rfl)⟩
    · have hT := ierT_0 (t := t) (x := x) (fun h => hB h.2)
      have H := Lib.hid h
      have hb : (x / 2 % 2 == 1) = false := by simpa using hB
      rw [hT] at OK ⊢
      clear hT h hA hB
      generalize t.ier = i at *
      go_enter Tryd.func22, Tryd.ntmps22
      go_wp2
      go_ret
      exact ⟨rfl, EndU.set H.out 2 (.int .u8 (x % 16)) rfl rfl OK.out rfl⟩

set_option maxRecDepth 100000 in
set_option maxHeartbeats 4000000 in
theorem refWrite_2 (w : World) (b : Nat) (F : Nat → Prop) (t : US) (vi vo : Value) (h : HR w b F t vi vo) (off n v : Int) (hv : In64 v) (hk : plK t off n = 2) :
    Calls Tryd.prog 22 #[.pointer (some ⟨b, 0, none⟩), .int .u64 off, .int .i64 n, .int .u64 v] w (TellR w b F (.bool true) (wrT t (v % 256) 2)) := by
  have v0 := hv.1
  have x0 : 0 ≤ v % 256 := by omega
  have x1 : v % 256 < 256 := by omega
  have hw' : IntKind.u8.wrap (v % 256) = v % 256 := by rw [wrap8 _ x0]; omega
  have OK := Lib.hid (wrT_ok h.ok (v % 256) x0 x1 2)
  obtain ⟨x, hvx⟩ : ∃ x, v % 256 = x := ⟨_, rfl⟩
  rw [hvx] at x0 x1 hw' OK ⊢
  clear hv
  obtain ⟨rfl, rfl, hL⟩ := plK_inv hk (by decide)
  clear hL
  change Calls _ _ #[_, .int .u64 2, _, _] _ _
  clear hk
  have c4 := h.cell 4 (v := .int .u8 t.lcr) rfl
  have c3 := h.cell 3 (v := .int .u8 t.fcr) rfl
  have c0 := h.cell 0 (v := vi) rfl
  have f3 := h.free 3
  have f0 := h.free 0
  change Calls _ _ _ _ (TellR w b F (.bool true) (fcrT t x))
  have OK1 := (wrT_ok h.ok x x0 x1 2)
  have okf : ({ t with fcr := x % 2 } : US).ok := ⟨h.ok.li, h.ok.lo, h.ok.ier, OK1.fcr, h.ok.lcr, h.ok.mcr, h.ok.scr, h.ok.dl, h.ok.dm⟩
  have H1 := h.set 3 (.int .u8 (x % 2)) (t' := { t with fcr := x % 2 }) rfl rfl okf rfl
  have HO1 := Lib.hid ((Only.refl F w).setCell (p := ⟨b, 3, none⟩) (.inl h.fb) (.int .u8 (x % 2)))
  have E1 := Lib.hid (EndU.set h 3 (.int .u8 (x % 2)) (t' := { t with fcr := x % 2 }) rfl rfl okf rfl)
  replace OK : Hid (fcrT t x).ok := OK
  by_cases hB : x / 2 % 2 = 1
  · have E2 := Lib.hid (EndU.turnIn (t' := { t with inn := [], fcr := x % 2 }) H1 (Only.refl _ _) (RowB.nil _) (fun g hg => by cases hg) rfl (ok_inn okf (by simp)) rfl)
    have hT : fcrT t x = { t with inn := [], fcr := x % 2 } := fcrT_1 hB
    rw [hT]
    clear hT h OK OK1 okf H1 E1
    go_enter Tryd.func22, Tryd.ntmps22
    go_wp2
    go_ret
    exact ⟨rfl, EndU.step HO1.out (fun i hi => .inl hi) E2.out⟩
  · have hT : fcrT t x = { t with fcr := x % 2 } := fcrT_0 hB
    have hb : (x / 2 % 2 == 1) = false := by simpa using hB
    rw [hT]
    clear hT h OK OK1 okf H1 hB
    go_enter Tryd.func22, Tryd.ntmps22
    go_wp2
    go_ret
    exact ⟨rfl, E1.out⟩

set_option maxRecDepth 100000 in
set_option maxHeartbeats 4000000 in
theorem refWrite_3 (w : World) (b : Nat) (F : Nat → Prop) (t : US) (vi vo : Value) (h : HR w b F t vi vo) (off n v : Int) (hv : In64 v) (hk : plK t off n = 3) :
    Calls Tryd.prog 22 #[.pointer (some ⟨b, 0, none⟩), .int .u64 off, .int .i64 n, .int .u64 v] w (TellR w b F (.bool true) (wrT t (v % 256) 3)) := by
  have v0 := hv.1
  have x0 : 0 ≤ v % 256 := by omega
  have x1 : v % 256 < 256 := by omega
  have hw' : IntKind.u8.wrap (v % 256) = v % 256 := by rw [wrap8 _ x0]; omega
  have OK := Lib.hid (wrT_ok h.ok (v % 256) x0 x1 3)
  obtain ⟨x, hvx⟩ : ∃ x, v % 256 = x := ⟨_, rfl⟩
  rw [hvx] at x0 x1 hw' OK ⊢
  clear hv
  obtain ⟨rfl, rfl, hL⟩ := plK_inv hk (by decide)
  clear hL
  change Calls _ _ #[_, .int .u64 3, _, _] _ _
  clear hk
  have c4 := h.cell 4 (v := .int .u8 t.lcr) rfl
  have cF := h.cell 4 (v := .int .u8 t.lcr) rfl
  have fF := h.free 4
  have E := Lib.hid (EndU.set h 4 (.int .u8 x) (t' := { t with lcr := x }) rfl rfl OK.out rfl)
  change Calls _ _ _ _ (TellR w b F (.bool true) { t with lcr := x })
  clear h OK
  go_enter Tryd.func22, Tryd.ntmps22
  go_wp2
  go_ret
  exact ⟨rfl, E.out⟩

set_option maxRecDepth 100000 in
set_option maxHeartbeats 4000000 in
theorem refWrite_4 (w : World) (b : Nat) (F : Nat → Prop) (t : US) (vi vo : Value) (h : HR w b F t vi vo) (off n v : Int) (hv : In64 v) (hk : plK t off n = 4) :
    Calls Tryd.prog 22 #[.pointer (some ⟨b, 0, none⟩), .int .u64 off, .int .i64 n, .int .u64 v] w (TellR w b F (.bool true) (wrT t (v % 256) 4)) := by
  have v0 := hv.1
  have x0 : 0 ≤ v % 256 := by omega
  have x1 : v % 256 < 256 := by omega
  have hw' : IntKind.u8.wrap (v % 256) = v % 256 := by rw [wrap8 _ x0]; omega
  have OK := Lib.hid (wrT_ok h.ok (v % 256) x0 x1 4)
  obtain ⟨x, hvx⟩ : ∃ x, v % 256 = x := ⟨_, rfl⟩
  rw [hvx] at x0 x1 hw' OK ⊢
  clear hv
  obtain ⟨rfl, rfl, hL⟩ := plK_inv hk (by decide)
  clear hL
  change Calls _ _ #[_, .int .u64 4, _, _] _ _
  clear hk
  have c4 := h.cell 4 (v := .int .u8 t.lcr) rfl
  have cF := h.cell 5 (v := .int .u8 t.mcr) rfl
  have fF := h.free 5
  have E := Lib.hid (EndU.set h 5 (.int .u8 (x % 32)) (t' := { t with mcr := (x % 32) }) rfl rfl OK.out rfl)
  change Calls _ _ _ _ (TellR w b F (.bool true) { t with mcr := (x % 32) })
  clear h OK
  go_enter Tryd.func22, Tryd.ntmps22
  go_wp2
  go_ret
  exact ⟨rfl, E.out⟩

set_option maxRecDepth 100000 in
set_option maxHeartbeats 4000000 in
theorem refWrite_5 (w : World) (b : Nat) (F : Nat → Prop) (t : US) (vi vo : Value) (h : HR w b F t vi vo) (off n v : Int) (hv : In64 v) (hk : plK t off n = 5) :
    Calls Tryd.prog 22 #[.pointer (some ⟨b, 0, none⟩), .int .u64 off, .int .i64 n, .int .u64 v] w (TellR w b F (.bool true) (wrT t (v % 256) 5)) := by
  have v0 := hv.1
  have x0 : 0 ≤ v % 256 := by omega
  have x1 : v % 256 < 256 := by omega
  have hw' : IntKind.u8.wrap (v % 256) = v % 256 := by rw [wrap8 _ x0]; omega
  have OK := Lib.hid (wrT_ok h.ok (v % 256) x0 x1 5)
  obtain ⟨x, hvx⟩ : ∃ x, v % 256 = x := ⟨_, rfl⟩
  rw [hvx] at x0 x1 hw' OK ⊢
  clear hv
  obtain ⟨rfl, rfl, hL⟩ := plK_inv hk (by decide)
  clear hL
  change Calls _ _ #[_, .int .u64 5, _, _] _ _
  clear hk
  have c4 := h.cell 4 (v := .int .u8 t.lcr) rfl
  have H := Lib.hid h
  change Calls _ _ _ _ (TellR w b F (.bool true) t)
  clear h OK
  go_enter Tryd.func22, Tryd.ntmps22
  go_wp2
  go_ret
  exact ⟨rfl, EndU.refl H.out⟩

set_option maxRecDepth 100000 in
set_option maxHeartbeats 4000000 in
theorem refWrite_6 (w : World) (b : Nat) (F : Nat → Prop) (t : US) (vi vo : Value) (h : HR w b F t vi vo) (off n v : Int) (hv : In64 v) (hk : plK t off n = 6) :
    Calls Tryd.prog 22 #[.pointer (some ⟨b, 0, none⟩), .int .u64 off, .int .i64 n, .int .u64 v] w (TellR w b F (.bool true) (wrT t (v % 256) 6)) := by
  have v0 := hv.1
  have x0 : 0 ≤ v % 256 := by omega
  have x1 : v % 256 < 256 := by omega
  have hw' : IntKind.u8.wrap (v % 256) = v % 256 := by rw [wrap8 _ x0]; omega
  have OK := Lib.hid (wrT_ok h.ok (v % 256) x0 x1 6)
  obtain ⟨x, hvx⟩ : ∃ x, v % 256 = x := ⟨_, rfl⟩
  rw [hvx] at x0 x1 hw' OK ⊢
  clear hv
  obtain ⟨rfl, rfl, hL⟩ := plK_inv hk (by decide)
  clear hL
  change Calls _ _ #[_, .int .u64 6, _, _] _ _
  clear hk
  have c4 := h.cell 4 (v := .int .u8 t.lcr) rfl
  have H := Lib.hid h
  change Calls _ _ _ _ (TellR w b F (.bool true) t)
  clear h OK
  go_enter Tryd.func22, Tryd.ntmps22
  go_wp2
  go_ret
  exact ⟨rfl, EndU.refl H.out⟩

set_option maxRecDepth 100000 in
set_option maxHeartbeats 4000000 in
theorem refWrite_7 (w : World) (b : Nat) (F : Nat → Prop) (t : US) (vi vo : Value) (h : HR w b F t vi vo) (off n v : Int) (hv : In64 v) (hk : plK t off n = 7) :
    Calls Tryd.prog 22 #[.pointer (some ⟨b, 0, none⟩), .int .u64 off, .int .i64 n, .int .u64 v] w (TellR w b F (.bool true) (wrT t (v % 256) 7)) := by
  have v0 := hv.1
  have x0 : 0 ≤ v % 256 := by omega
  have x1 : v % 256 < 256 := by omega
  have hw' : IntKind.u8.wrap (v % 256) = v % 256 := by rw [wrap8 _ x0]; omega
  have OK := Lib.hid (wrT_ok h.ok (v % 256) x0 x1 7)
  obtain ⟨x, hvx⟩ : ∃ x, v % 256 = x := ⟨_, rfl⟩
  rw [hvx] at x0 x1 hw' OK ⊢
  clear hv
  obtain ⟨rfl, rfl, hL⟩ := plK_inv hk (by decide)
  clear hL
  change Calls _ _ #[_, .int .u64 7, _, _] _ _
  clear hk
  have c4 := h.cell 4 (v := .int .u8 t.lcr) rfl
  have cF := h.cell 6 (v := .int .u8 t.scr) rfl
  have fF := h.free 6
  have E := Lib.hid (EndU.set h 6 (.int .u8 x) (t' := { t with scr := x }) rfl rfl OK.out rfl)
  change Calls _ _ _ _ (TellR w b F (.bool true) { t with scr := x })
  clear h OK
  go_enter Tryd.func22, Tryd.ntmps22
  go_wp2
  go_ret
  exact ⟨rfl, E.out⟩

set_option maxRecDepth 100000 in
set_option maxHeartbeats 4000000 in
theorem refWrite_8 (w : World) (b : Nat) (F : Nat → Prop) (t : US) (vi vo : Value) (h : HR w b F t vi vo) (off n v : Int) (hv : In64 v) (hk : plK t off n = 8) :
    Calls Tryd.prog 22 #[.pointer (some ⟨b, 0, none⟩), .int .u64 off, .int .i64 n, .int .u64 v] w (TellR w b F (.bool true) (wrT t (v % 256) 8)) := by
  have v0 := hv.1
  have x0 : 0 ≤ v % 256 := by omega
  have x1 : v % 256 < 256 := by omega
  have hw' : IntKind.u8.wrap (v % 256) = v % 256 := by rw [wrap8 _ x0]; omega
  have OK := Lib.hid (wrT_ok h.ok (v % 256) x0 x1 8)
  obtain ⟨x, hvx⟩ : ∃ x, v % 256 = x := ⟨_, rfl⟩
  rw [hvx] at x0 x1 hw' OK ⊢
  clear hv
  obtain ⟨rfl, rfl, hL⟩ := plK_inv2 hk (by decide) (by decide)
  change Calls _ _ #[_, .int .u64 0, _, _] _ _
  clear hk
  have c4 := h.cell 4 (v := .int .u8 t.lcr) rfl
  have cF := h.cell 7 (v := .int .u8 t.dl) rfl
  have fF := h.free 7
  have E := Lib.hid (EndU.set h 7 (.int .u8 x) (t' := { t with dl := x }) rfl rfl OK.out rfl)
  change Calls _ _ _ _ (TellR w b F (.bool true) { t with dl := x })
  clear h OK
  go_enter Tryd.func22, Tryd.ntmps22
  go_wp2
  go_ret
  exact ⟨rfl, E.out⟩

set_option maxRecDepth 100000 in
set_option maxHeartbeats 4000000 in
theorem refWrite_9 (w : World) (b : Nat) (F : Nat → Prop) (t : US) (vi vo : Value) (h : HR w b F t vi vo) (off n v : Int) (hv : In64 v) (hk : plK t off n = 9) :
    Calls Tryd.prog 22 #[.pointer (some ⟨b, 0, none⟩), .int .u64 off, .int .i64 n, .int .u64 v] w (TellR w b F (.bool true) (wrT t (v % 256) 9)) := by
  have v0 := hv.1
  have x0 : 0 ≤ v % 256 := by omega
  have x1 : v % 256 < 256 := by omega
  have hw' : IntKind.u8.wrap (v % 256) = v % 256 := by rw [wrap8 _ x0]; omega
  have OK := Lib.hid (wrT_ok h.ok (v % 256) x0 x1 9)
  obtain ⟨x, hvx⟩ : ∃ x, v % 256 = x := ⟨_, rfl⟩
  rw [hvx] at x0 x1 hw' OK ⊢
  clear hv
  obtain ⟨rfl, rfl, hL⟩ := plK_inv2 hk (by decide) (by decide)
  change Calls _ _ #[_, .int .u64 1, _, _] _ _
  clear hk
  have c4 := h.cell 4 (v := .int .u8 t.lcr) rfl
  have cF := h.cell 8 (v := .int .u8 t.dm) rfl
  have fF := h.free 8
  have E := Lib.hid (EndU.set h 8 (.int .u8 x) (t' := { t with dm := x }) rfl rfl OK.out rfl)
  change Calls _ _ _ _ (TellR w b F (.bool true) { t with dm := x })
  clear h OK
  go_enter Tryd.func22, Tryd.ntmps22
  go_wp2
  go_ret
  exact ⟨rfl, E.out⟩

theorem refWrite_out (w : World) (b : Nat) (F : Nat → Prop) (t : US) (vi vo : Value) (h : HR w b F t vi vo) (off n v : Int) (ho : In64 off) (hk : plK t off n = 10) :
    Calls Tryd.prog 22 #[.pointer (some ⟨b, 0, none⟩), .int .u64 off, .int .i64 n, .int .u64 v] w (TellR w b F (.bool false) t) := by
  have h0 := ho.1
  have H := Lib.hid h
  have hq := plK_ten hk h0
  clear h ho hk
  by_cases hn : n = 1
  · subst hn
    have h8 : 8 ≤ off := hq.resolve_left (fun h => h rfl)
    have h7 : (7 : Int) < off := by omega
    clear hq
    go_enter Tryd.func22, Tryd.ntmps22
    go_wp2
    go_ret
    exact ⟨rfl, EndU.refl H.out⟩
  · have hb : (n == 1) = false := by simpa using hn
    have hb2 : (n != 1) = true := by simpa [bne] using hn
    clear hn hq
    go_enter Tryd.func22, Tryd.ntmps22
    go_wp2
    go_ret
    exact ⟨rfl, EndU.refl H.out⟩
theorem refWrite_any (w : World) (b : Nat) (F : Nat → Prop) (t : US) (h : UR w b F t) (off n v : Int) (ho : In64 off) (hv : In64 v) :
    Calls Tryd.prog 22 #[.pointer (some ⟨b, 0, none⟩), .int .u64 off, .int .i64 n, .int .u64 v] w (TellR w b F (.bool (okK (plK t off n))) (wrT t (v % 256) (plK t off n))) := by
  obtain ⟨vi, vo, h⟩ := h
  rcases ten (plK_le t off n) with hk | hk | hk | hk | hk | hk | hk | hk | hk | hk | hk
  · rw [hk]; exact refWrite_0 w b F t vi vo h off n v hv hk
  · rw [hk]; exact refWrite_1 w b F t vi vo h off n v hv hk
  · rw [hk]; exact refWrite_2 w b F t vi vo h off n v hv hk
  · rw [hk]; exact refWrite_3 w b F t vi vo h off n v hv hk
  · rw [hk]; exact refWrite_4 w b F t vi vo h off n v hv hk
  · rw [hk]; exact refWrite_5 w b F t vi vo h off n v hv hk
  · rw [hk]; exact refWrite_6 w b F t vi vo h off n v hv hk
  · rw [hk]; exact refWrite_7 w b F t vi vo h off n v hv hk
  · rw [hk]; exact refWrite_8 w b F t vi vo h off n v hv hk
  · rw [hk]; exact refWrite_9 w b F t vi vo h off n v hv hk
  · rw [hk]; exact refWrite_out w b F t vi vo h off n v ho hk

end Go.Proofs.YtcbjfkbmbjmnbaaDoor
