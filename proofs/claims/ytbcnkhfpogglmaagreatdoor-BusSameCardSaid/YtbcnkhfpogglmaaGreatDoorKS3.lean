/- Joined: Ud Ue Uf Ug Uh Ui Uj EqG Uk Ul Um R3 R3b RdN R3c R3d R3e R3f R3g R3h R3i MemEnd ArrEq PgMap Pm Pm2 Byt Pm3 -/
import Derived.Test.YtbcnkhfpogglmaaGreatDoorKS2
import Derived.StillTailTactics
import Derived.Deep.CutRange
import Derived.Lib.SliceRun
import Derived.Laws.StructEq
import Derived.Test.YtbcnkhfpogglmaaGreatDoorRows
import Derived.WalkLawsBesides
import Derived.BigQuiet
import Derived.Deep.QuietTactic
import Derived.Lib.Hide
import Derived.Deep.AppendLies
import Derived.Deep.RegionLaw
import Derived.Maps.RangeWalk
import Derived.Maps.OwnSet
import Derived.Maps.Ext
import Derived.Laws.CopyOwn
import Derived.Shelf.Bytes.SlCountOne
import Derived.Laws.EntriesVeiled
import Derived.Outline
namespace Go.Proofs.YtbcnkhfpogglmaaGreatDoor.U6
open Go.RowKit
set_option linter.unusedVariables false
set_option maxRecDepth 100000

theorem cut_full {w : World} {g off : Nat} {x : Int} {xs : List Int} (hb : Byt (x :: xs)) (hg : g < w.heap.size) (hc : ∀ j, j < (x :: xs).length → w.cell? ⟨g, off + j, none⟩ = some (.int .u8 ((x :: xs).getD j 0))) : RowB w (.slice (some ⟨g, off + 1, none⟩) xs.length xs.length) xs :=
  ⟨hb.tail, .inr ⟨g, off + 1, rfl, hg, fun j hj => by
    have := hc (j + 1) (by simp; omega)
    rw [show off + 1 + j = off + (j + 1) by omega, this]; simp⟩⟩
theorem cut_last {w : World} {g off : Nat} (hg : g < w.heap.size) : RowB w (.slice (some ⟨g, off, none⟩) 0 0) [] :=
  ⟨Byt.nil, .inr ⟨g, off, rfl, hg, fun j hj => absurd hj (by simp)⟩⟩

theorem run_cut (w : World) (g off n c : Nat) (h2 : 2 ≤ n) (hc : n ≤ c) (z : Int) (hz : z = n) : (Instr.slice 40 (.slice (some ⟨g, off, none⟩) n c) (some (.int .i64 1)) (some (.int .i64 z)) (some (.int .i64 z))).run Tryz.prog w = .ok (.slice (some ⟨g, off + 1, none⟩) (n - 1) (n - 1)) w := by
  subst hz
  rw [run_slice_lhm (t := 40) w (some ⟨g, off, none⟩) n c ?_ .i64 .i64 .i64 1 n n (by decide) (by omega) (by omega) (by omega)]
  · have hs : (sizeOf (Tryz.prog.elem 40)).run Tryz.prog w = .ok 1 w := by kernel_rfl
    rw [hs]
    simp [sliced, Addr.add]
    omega
  · kernel_rfl

/-- What next answers. -/
def NextU (w : World) (b : Nat) (F : Nat → Prop) (t : US) (e : Ending) (w' : World) : Prop := e = .returned (.int .u8 (t.inn.getD 0 0)) ∧ EndU cellsP 131 w b F { t with inn := t.inn.tail } w'
set_option maxHeartbeats 2000000 in
theorem next_any (w : World) (b : Nat) (F : Nat → Prop) (t : US) (vi vo : Value) (h : HP w b F t vi vo) :
    Calls Tryz.prog 151 #[.pointer (some ⟨b, 0, none⟩)] w (NextU w b F t) := by
  have hlen := h.ok.li
  obtain ⟨a, c, rfl, hnc, hcm, hr⟩ := h.ri.reads (by omega)
  obtain ⟨c0, _, _, _⟩ := h.pcells
  have f0 := h.free 0
  obtain ⟨inn, out, ier, fcr, lcr, mcr, scr, dl, dm, lost, sent⟩ := t
  simp only at hlen hr c0 hnc
  cases inn with
  | nil =>
    have H := Lib.hid h
    clear h hr
    go_enter Tryz.func151, Tryz.ntmps151
    go_wp2
    go_ret
    exact ⟨rfl, EndU.refl H.out⟩
  | cons x xs =>
    rcases hr with ⟨_, _, h0⟩ | ⟨g, off, rfl, hg, hc⟩
    · cases h0
    have cx : w.cell? ⟨g, off, none⟩ = some (.int .u8 x) := by have := hc 0 (by simp); simpa using this
    have HC := Lib.hid hc
    have HB := Lib.hid h.ri.byt
    have H := Lib.hid h
    have OK := Lib.hid h.ok
    clear h hc
    have hnb : ¬ (some b = some g) := fun e => by
      obtain rfl := Option.some.inj e
      exact (H.out.fi b rfl).2 rfl
    clear hnb
    cases xs with
    | nil =>
      have hnc1 : (1 : Int) ≤ (c : Int) := by simp at hnc; omega
      simp only [List.length_cons, List.length_nil, Nat.zero_add] at H c0
      clear hnc hlen
      go_enter Tryz.func151, Tryz.ntmps151
      go_wp2
      go_still_tail 18, (by kernel_rfl)
      change wpList _ _ _ _ _ w.drew
      have O2 : Only (fun i => (Value.slice (some ⟨g, off, none⟩) 1 c).ownBlock = some i) w w.drew := (Only.refl _ w).drewN 1
      have f2 : w.drew.frozen? ⟨b, 0, none⟩ = false := f0
      have d0 : ∃ v, w.drew.cell? ⟨b, 0, none⟩ = some v := ⟨_, c0⟩
      have HO := Lib.hid O2
      have hg2 : g < w.drew.heap.size := hg
      clear O2 f0 c0
      generalize w.drew = w2 at *
      obtain ⟨v0, d0⟩ := d0
      go_wp2
      go_ret
      exact ⟨rfl, EndU.turnIn (t' := ⟨[], out, ier, fcr, lcr, mcr, scr, dl, dm, lost, sent⟩) H.out HO.out (cut_last hg2) (fun g hg => .inl hg) rfl ⟨by simp, OK.out.lo, OK.out.ier, OK.out.fcr, OK.out.lcr, OK.out.mcr, OK.out.scr, OK.out.dl, OK.out.dm⟩ rfl⟩
    | cons y ys =>
      have hlen2 : ys.length ≤ 14 := by simp at hlen; omega
      have hcut : ∀ wr, (Instr.slice 40 (.slice (some ⟨g, off, none⟩) (ys.length + 1 + 1) c) (some (.int .i64 1)) (some (.int .i64 ((ys.length : Int) + 1 + 1))) (some (.int .i64 ((ys.length : Int) + 1 + 1)))).run Tryz.prog wr = .ok (.slice (some ⟨g, off + 1, none⟩) (ys.length + 1) (ys.length + 1)) wr :=
        fun wr => run_cut wr g off (ys.length + 1 + 1) c (by omega) (by simpa using hnc) _ (by omega)
      clear hnc hlen
      go_enter Tryz.func151, Tryz.ntmps151
      go_wp2
      go_still_tail 18, (by kernel_rfl)
      change wpList _ _ _ _ _ w.drew
      have O2 : Only (fun i => (Value.slice (some ⟨g, off, none⟩) (ys.length + 1 + 1) c).ownBlock = some i) w w.drew := (Only.refl _ w).drewN 1
      have f2 : w.drew.frozen? ⟨b, 0, none⟩ = false := f0
      have d0 : ∃ v, w.drew.cell? ⟨b, 0, none⟩ = some v := ⟨_, c0⟩
      have HO := Lib.hid O2
      have HR2 : Hid (RowB w.drew (.slice (some ⟨g, off + 1, none⟩) (ys.length + 1) (ys.length + 1)) (y :: ys)) := Lib.hid (cut_full HB.out hg HC.out)
      clear O2 f0 c0
      generalize w.drew = w2 at *
      obtain ⟨v0, d0⟩ := d0
      go_wp2
      go_ret
      exact ⟨rfl, EndU.turnIn (t' := ⟨y :: ys, out, ier, fcr, lcr, mcr, scr, dl, dm, lost, sent⟩) H.out HO.out HR2.out (fun g hg => .inl hg) rfl ⟨by simp; omega, OK.out.lo, OK.out.ier, OK.out.fcr, OK.out.lcr, OK.out.mcr, OK.out.scr, OK.out.dl, OK.out.dm⟩ rfl⟩

end Go.Proofs.YtbcnkhfpogglmaaGreatDoor.U6

namespace Go.Proofs.YtbcnkhfpogglmaaGreatDoor.U6
open Go.RowKit
set_option linter.unusedVariables false
set_option maxRecDepth 100000

theorem new_cell (w : World) (v : Value) (ty : TypeId) : (w.alloc (.cells #[v] ty)).cell? ⟨w.heap.size, 0, none⟩ = some v := by
  rw [cell_of_row _ _ _ _ _ _ (heap_alloc_new w _)]; rfl
theorem below_alloc (w : World) (o : Obj) : Below w.heap.size w (w.alloc o) := (Below.refl _ _).alloc (Nat.le_refl _) o

def DoneU (w : World) (b : Nat) (F : Nat → Prop) (t' : US) (e : Ending) (w' : World) : Prop := (∃ u, e = .returned u) ∧ EndU cellsP 131 w b F t' w'
theorem sendT_ok {t : US} (h : t.ok) (b : Int) : (sendT t b).ok := ⟨h.li, by
    have := h.lo
    show (if t.out.length < 65536 then t.out ++ [b] else t.out).length ≤ 65536
    split
    · simp; omega
    · exact this, h.ier, h.fcr, h.lcr, h.mcr, h.scr, h.dl, h.dm⟩
set_option maxRecDepth 100000 in
set_option maxHeartbeats 2000000 in
theorem send_any (w : World) (b : Nat) (F : Nat → Prop) (t : US) (vi vo : Value) (h : HP w b F t vi vo) (x : Int) (hx : 0 ≤ x ∧ x < 256) :
    Calls Tryz.prog 154 #[.pointer (some ⟨b, 0, none⟩), .int .u8 x] w (DoneU w b F (sendT t x)) := by
  have hlo := h.ok.lo
  obtain ⟨a, c, hvo, hnc, hcm, hr⟩ := h.ro.reads (by omega)
  subst hvo
  obtain ⟨_, c1, _, _⟩ := h.pcells
  have f1 := h.free 1
  have f3 := h.free 3
  have HX := Lib.hid hx
  by_cases hlt : t.out.length < 65536
  · -- the byte is appended
    have h2 := h.below (below_alloc w (.cells #[.int .u8 x] 5))
    obtain ⟨v', w', hrun, hR, hO, hv⟩ := run_push (w.alloc (.cells #[.int .u8 x] 5)) _ t.out h2.ro (by omega) w.heap.size 0 x 1 (new_cell w _ _) hx 40
    obtain ⟨a2, c2, hv2, _, _, _⟩ := hR.reads (by simp; omega)
    have hl2 : (t.out ++ [x]).length = t.out.length + 1 := by simp
    rw [hl2] at hv2
    subst hv2
    have E1 : EndU cellsP 131 w b F { t with out := t.out ++ [x] } (w'.setCell ⟨b, 1, none⟩ (.slice a2 (t.out.length + 1) c2)) := by
      have k := EndU.turnOut (t' := { t with out := t.out ++ [x] }) h2 hO hR hv rfl ⟨h.ok.li, by simp; omega, h.ok.ier, h.ok.fcr, h.ok.lcr, h.ok.mcr, h.ok.scr, h.ok.dl, h.ok.dm⟩ rfl
      exact EndU.step (Only.of_below F (below_alloc w _)) (fun i hi => .inl hi) k
    have HE1 := Lib.hid E1
    have f1' : w'.frozen? ⟨b, 1, none⟩ = false := (World.frozen?_of_block (hO.block b (Nat.lt_of_lt_of_le h.blt (below_alloc w _).size) (fun e => (h2.fo b e).2 rfl))).trans (h2.free 1)
    have d1' : ∃ v, w'.cell? ⟨b, 1, none⟩ = some v := ⟨_, (World.cell?_of_block (hO.block b (Nat.lt_of_lt_of_le h.blt (below_alloc w _).size) (fun e => (h2.fo b e).2 rfl))).trans (h2.cell 1 rfl)⟩
    obtain ⟨v1, d1'⟩ := d1'
    have hT : sendT t x = { { t with out := t.out ++ [x] } with sent := true } := by unfold sendT; rw [if_pos hlt]
    have OK := Lib.hid (sendT_ok h.ok x)
    rw [hT] at OK ⊢
    have HRUN := Lib.hid hrun
    have HO2 := Lib.hid hO
    have hd : decide ((t.out.length : Int) < 65536) = true := by rw [decide_eq_true_eq]; omega
    clear hT h h2 hR hO hv hr E1 hx hrun hlo hlt
    generalize t.out.length = n at *
    go_enter Tryz.func154, Tryz.ntmps154
    go_upto_region 2 with ((at_builtin; refine wpList_append_run rfl _ _ _ rfl (.slice a n c) (.slice (some ⟨w.heap.size, 0, none⟩) 1 1) (.slice a2 (n + 1) c2) w' rfl rfl HRUN.out ?_))
    obtain ⟨ho, F1, hF1, vi1, vo1, h1⟩ := HE1.out
    generalize w'.setCell ⟨b, 1, none⟩ (.slice a2 (n + 1) c2) = w1 at *
    have H1 := Lib.hid h1
    have HO1 := Lib.hid ho
    have HF1 := Lib.hid hF1
    have f3b := h1.free 3
    obtain ⟨_, _, _, e3⟩ := h1.pcells
    clear h1 ho hF1 HE1 d1' f1' f1 f3 HRUN HO2 hnc hcm hd c1
    go_wp2
    go_end0
    exact ⟨⟨_, rfl⟩, EndU.step HO1.out HF1.out (EndU.set H1.out 3 (.bool true) rfl rfl OK.out rfl)⟩
  · have hd : decide ((t.out.length : Int) < 65536) = false := by rw [decide_eq_false_iff_not]; omega
    have hT : sendT t x = { t with sent := true } := by unfold sendT; rw [if_neg hlt]
    have OK := Lib.hid (sendT_ok h.ok x)
    have H := Lib.hid h
    rw [hT] at OK ⊢
    clear hT h hr hlt hlo hnc hcm hx
    generalize t.out.length = n at *
    go_enter Tryz.func154, Tryz.ntmps154
    go_wp2
    go_end0
    exact ⟨⟨_, rfl⟩, EndU.set H.out 3 (.bool true) rfl rfl OK.out rfl⟩

/-- What a call answers and leaves. -/
def TellU (w : World) (b : Nat) (F : Nat → Prop) (x : Value) (t' : US) (e : Ending) (w' : World) : Prop := e = .returned x ∧ EndU cellsP 131 w b F t' w'
theorem ok_sent {t : US} (h : t.ok) (s : Bool) : ({ t with sent := s } : US).ok := ⟨h.li, h.lo, h.ier, h.fcr, h.lcr, h.mcr, h.scr, h.dl, h.dm⟩
theorem ok_lost {t : US} (h : t.ok) (s : Bool) : ({ t with lost := s } : US).ok := ⟨h.li, h.lo, h.ier, h.fcr, h.lcr, h.mcr, h.scr, h.dl, h.dm⟩
theorem ok_inn {t : US} (h : t.ok) {l : List Int} (hl : l.length ≤ 16) : ({ t with inn := l } : US).ok := ⟨hl, h.lo, h.ier, h.fcr, h.lcr, h.mcr, h.scr, h.dl, h.dm⟩

/-! ### Feed, Waiting -/
set_option maxRecDepth 100000 in
set_option maxHeartbeats 2000000 in
theorem feed_any (w : World) (b : Nat) (F : Nat → Prop) (t : US) (vi vo : Value) (h : HP w b F t vi vo) (x : Int) (hx : 0 ≤ x ∧ x < 256) :
    Calls Tryz.prog 89 #[.pointer (some ⟨b, 0, none⟩), .int .u8 x] w (TellU w b F (.bool (feedK t)) (feedT t x)) := by
  have hli := h.ok.li
  obtain ⟨a, c, hvi, hnc, hcm, hr⟩ := h.ri.reads (by omega)
  subst hvi
  obtain ⟨c0, _, _, _⟩ := h.pcells
  have f0 := h.free 0
  have f2 := h.free 2
  have HX := Lib.hid hx
  by_cases hlt : t.inn.length < 16
  · have h2 := h.below (below_alloc w (.cells #[.int .u8 x] 5))
    obtain ⟨v', w', hrun, hR, hO, hv⟩ := run_push (w.alloc (.cells #[.int .u8 x] 5)) _ t.inn h2.ri (by omega) w.heap.size 0 x 1 (new_cell w _ _) hx 40
    obtain ⟨a2, c2, hv2, _, _, _⟩ := hR.reads (by simp; omega)
    have hl2 : (t.inn ++ [x]).length = t.inn.length + 1 := by simp
    rw [hl2] at hv2
    subst hv2
    have E1 : EndU cellsP 131 w b F { t with inn := t.inn ++ [x] } (w'.setCell ⟨b, 0, none⟩ (.slice a2 (t.inn.length + 1) c2)) := by
      have k := EndU.turnIn (t' := { t with inn := t.inn ++ [x] }) h2 hO hR hv rfl (ok_inn h.ok (by simp; omega)) rfl
      exact EndU.step (Only.of_below F (below_alloc w _)) (fun i hi => .inl hi) k
    have HE1 := Lib.hid E1
    have f0' : w'.frozen? ⟨b, 0, none⟩ = false := (World.frozen?_of_block (hO.block b (Nat.lt_of_lt_of_le h.blt (below_alloc w _).size) (fun e => (h2.fi b e).2 rfl))).trans (h2.free 0)
    have d0' : ∃ v, w'.cell? ⟨b, 0, none⟩ = some v := ⟨_, (World.cell?_of_block (hO.block b (Nat.lt_of_lt_of_le h.blt (below_alloc w _).size) (fun e => (h2.fi b e).2 rfl))).trans (h2.cell 0 rfl)⟩
    obtain ⟨v1, d0'⟩ := d0'
    have hT : feedT t x = { t with inn := t.inn ++ [x] } := by unfold feedT; rw [if_neg (by omega)]
    have hK : feedK t = true := decide_eq_true hlt
    have HRUN := Lib.hid hrun
    have hd : decide ((16 : Int) ≤ (t.inn.length : Int)) = false := by rw [decide_eq_false_iff_not]; omega
    rw [hT, hK]
    clear hT hK h h2 hR hO hv hr E1 hx hrun hli hlt
    generalize t.inn.length = n at *
    go_enter Tryz.func89, Tryz.ntmps89
    go_wp2_with ((at_builtin; refine wpList_append_run rfl _ _ _ rfl (.slice a n c) (.slice (some ⟨w.heap.size, 0, none⟩) 1 1) (.slice a2 (n + 1) c2) w' rfl rfl HRUN.out ?_))
    go_ret
    exact ⟨rfl, HE1.out⟩
  · have hd : decide ((16 : Int) ≤ (t.inn.length : Int)) = true := by rw [decide_eq_true_eq]; omega
    have hT : feedT t x = { t with lost := true } := by unfold feedT; rw [if_pos (by omega)]
    have hK : feedK t = false := decide_eq_false hlt
    have OK := Lib.hid (ok_lost h.ok true)
    have H := Lib.hid h
    rw [hT, hK]
    clear hT hK h hr hlt hli hnc hcm hx
    generalize t.inn.length = n at *
    go_enter Tryz.func89, Tryz.ntmps89
    go_wp2
    go_ret
    exact ⟨rfl, EndU.set H.out 2 (.bool true) rfl rfl OK.out rfl⟩
end Go.Proofs.YtbcnkhfpogglmaaGreatDoor.U6

namespace Go.Proofs.YtbcnkhfpogglmaaGreatDoor.U6
open Go.RowKit
set_option linter.unusedVariables false
set_option maxRecDepth 100000

theorem rdX2 {t : US} {r : Int} (h : rsn t = r) (hf : t.fcr = 1) : rdX t 2 = r + 192 := by show rsn t + _ = _; rw [h, if_pos hf]
theorem rdX2' {t : US} {r : Int} (h : rsn t = r) (hf : ¬ t.fcr = 1) : rdX t 2 = r := by show rsn t + _ = _; rw [h, if_neg hf]; omega
theorem rdT2 {t : US} (h : rsn t = 2) : rdT t 2 = { t with sent := false } := by show ({ t with sent := _ } : US) = _; rw [if_pos h]
theorem rdT2' {t : US} (h : ¬ rsn t = 2) : rdT t 2 = t := by show ({ t with sent := _ } : US) = _; rw [if_neg h]

set_option maxHeartbeats 2000000 in
theorem tellReason_any (w : World) (b : Nat) (F : Nat → Prop) (t : US) (vi vo : Value) (h : HP w b F t vi vo) :
    Calls Tryz.prog 152 #[.pointer (some ⟨b, 0, none⟩)] w (TellU w b F (.int .u8 (rdX t 2)) (rdT t 2)) := by
  have f3 := h.free 3
  obtain ⟨_, _, _, c3⟩ := h.pcells
  have h20 := hasV_fifo h.ok
  have H := Lib.hid h
  have H2 := Lib.hid (h.set 3 (.bool false) (t' := { t with sent := false }) rfl rfl (ok_sent h.ok false) rfl)
  have E2 := Lib.hid (EndU.set h 3 (.bool false) (t' := { t with sent := false }) rfl rfl (ok_sent h.ok false) rfl)
  have e20 : hasV { t with sent := false } 2 0 = hasV t 2 0 := rfl
  clear h
  rcases rsn_vals t with hr | hr | hr
  all_goals
    by_cases hf : t.fcr = 1
    all_goals
      first | rw [decide_eq_true hf] at h20 | rw [decide_eq_false hf] at h20
      rw [h20] at e20
      first | rw [rdX2 hr hf] | rw [rdX2' hr hf]
      first | rw [rdT2 hr] | rw [rdT2' (by omega)]
      have HRS := Lib.hid (reason_any w b F t vi vo H.out)
      rw [hr] at HRS
      clear hf hr
      go_enter Tryz.func152, Tryz.ntmps152
      go_wp2_with (first
        | (go_at_call 157; refine (HRS.out).mono ?_; rintro e w' ⟨rfl, rfl⟩)
        | (go_at_call 155; refine (has_any _ b F _ vi vo H.out _ _ (by decide) (by decide)).mono ?_; rintro e w' ⟨rfl, rfl⟩)
        | (go_at_call 155; refine (has_any _ b F _ vi vo H2.out _ _ (by decide) (by decide)).mono ?_; rintro e w' ⟨rfl, rfl⟩))
      go_ret
      first
        | exact ⟨rfl, E2.out⟩
        | exact ⟨rfl, EndU.refl H.out⟩

theorem rdX5 (t : US) (m : Nat) (hm : t.inn.length = m) : rdX t 5 = 96 + (if 0 < m then 1 else 0) + if t.lost = true then 2 else 0 := by subst hm; rfl
set_option maxHeartbeats 2000000 in
theorem tellStatus_any (w : World) (b : Nat) (F : Nat → Prop) (t : US) (vi vo : Value) (h : HP w b F t vi vo) :
    Calls Tryz.prog 153 #[.pointer (some ⟨b, 0, none⟩)] w (TellU w b F (.int .u8 (rdX t 5)) (rdT t 5)) := by
  have hli := h.ok.li
  obtain ⟨a, c, hvi, hnc, hcm, hr⟩ := h.ri.reads (by omega)
  subst hvi
  have f2 := h.free 2
  obtain ⟨c0, _, c2, _⟩ := h.pcells
  have E2 : Hid (EndU cellsP 131 w b F (rdT t 5) (w.setCell ⟨b, 2, none⟩ (.bool false))) := Lib.hid (EndU.set h 2 (.bool false) (t' := { t with lost := false }) rfl rfl (ok_lost h.ok false) rfl)
  have HX := Lib.hid (rdX5 t t.inn.length rfl)
  clear h hr hli hnc hcm
  generalize rdX t 5 = X at *
  generalize rdT t 5 = T at *
  generalize t.inn.length = n at *
  generalize t.lost = l at *
  by_cases hn : 0 < n
  · cases l
    all_goals
      go_enter Tryz.func153, Tryz.ntmps153
      go_wp2
      go_ret
      exact ⟨by rw [HX.out, if_pos hn]; rfl, E2.out⟩
  · obtain rfl : n = 0 := by omega
    cases l
    all_goals
      go_enter Tryz.func153, Tryz.ntmps153
      go_wp2
      go_ret
      exact ⟨by rw [HX.out, if_neg hn]; rfl, E2.out⟩

/-! ### the table of kept bits -/
def keptQ : Array Value := #[.int .u8 0, .int .u8 15, .int .u8 1, .int .u8 255, .int .u8 31, .int .u8 0, .int .u8 0, .int .u8 255, .int .u8 255, .int .u8 255]
/-- The program's table stands in its block. -/
def Tab (w : World) : Prop := ∃ t fr, w.heap[1]? = some (.cells keptQ t fr)
theorem Tab.lt {w : World} (h : Tab w) : 1 < w.heap.size := by obtain ⟨t, fr, h⟩ := h; exact (Array.getElem?_eq_some_iff.1 h).1
theorem Tab.below {w w' : World} (h : Tab w) (o : Below w.heap.size w w') : Tab w' := by
  have hl := h.lt
  obtain ⟨t, fr, h⟩ := h; exact ⟨t, fr, (o.block _ hl).trans h⟩
theorem Tab.keeps {w w' : World} {T : Nat → Prop} (h : Tab w) (o : Only T w w') (hT : ¬ T 1) : Tab w' := by obtain ⟨t, fr, h⟩ := h; exact ⟨t, fr, o.keeps hT h⟩
theorem Tab.cell {w : World} (h : Tab w) (k : Nat) {v : Value} (hv : keptQ[k]? = some v) : w.cell? ⟨1, k, none⟩ = some v := by
  obtain ⟨t, fr, h⟩ := h; rw [cell_of_row w _ k _ _ _ h, hv]

theorem and8 (x : Int) (h0 : 0 ≤ x) (h1 : x < 256) (m : Nat) (k : Nat) (hk : m = 2 ^ k - 1) (hm : m < 256) : bits .and .u8 x m = x % (2 ^ k : Nat) := by
  obtain ⟨n, rfl⟩ := Int.eq_ofNat_of_zero_le h0
  have hn : n < 256 := by omega
  have n8 : n % 2 ^ 8 = n := Nat.mod_eq_of_lt hn
  have m8 : m % 2 ^ 8 = m := Nat.mod_eq_of_lt hm
  show IntKind.u8.wrap ((BitVec.ofInt 8 (n : Int) &&& BitVec.ofInt 8 (m : Int)).toNat : Int) = _
  rw [BitVec.toNat_and, BitVec.ofInt_natCast, BitVec.ofInt_natCast, BitVec.toNat_ofNat, BitVec.toNat_ofNat, n8, m8, hk, Nat.and_two_pow_sub_one_eq_mod]
  have hlt : n % 2 ^ k < 256 := Nat.lt_of_le_of_lt (Nat.mod_le _ _) hn
  rw [show ((n : Int) % ((2 ^ k : Nat) : Int)) = ((n % 2 ^ k : Nat) : Int) from (Int.natCast_emod _ _).symm]
  generalize n % 2 ^ k = q at *
  clear n8 m8
  rw [IntKind.wrap_u8]; omega
theorem and8_0 {x : Int} (h0 : 0 ≤ x) (h1 : x < 256) : bits .and .u8 x 0 = 0 := by have := and8 x h0 h1 0 0 (by decide) (by decide); simpa using this
theorem and8_1 {x : Int} (h0 : 0 ≤ x) (h1 : x < 256) : bits .and .u8 x 1 = x % 2 := by have := and8 x h0 h1 1 1 (by decide) (by decide); simpa using this
theorem and8_15 {x : Int} (h0 : 0 ≤ x) (h1 : x < 256) : bits .and .u8 x 15 = x % 16 := by have := and8 x h0 h1 15 4 (by decide) (by decide); simpa using this
theorem and8_31 {x : Int} (h0 : 0 ≤ x) (h1 : x < 256) : bits .and .u8 x 31 = x % 32 := by have := and8 x h0 h1 31 5 (by decide) (by decide); simpa using this
theorem and8_255 {x : Int} (h0 : 0 ≤ x) (h1 : x < 256) : bits .and .u8 x 255 = x := by have := and8 x h0 h1 255 8 (by decide) (by decide); rw [show ((255 : Nat) : Int) = 255 from rfl] at this; rw [this]; omega
theorem wrap8 (v : Int) (h : 0 ≤ v) : IntKind.u8.wrap v = v % 256 := IntKind.wrap_u8 v

end Go.Proofs.YtbcnkhfpogglmaaGreatDoor.U6

namespace Go.Proofs.YtbcnkhfpogglmaaGreatDoor.U6
open Go.RowKit
set_option linter.unusedVariables false
set_option maxRecDepth 100000

theorem find_at (w : World) (b : Nat) (F : Nat → Prop) (t : US) (vi vo : Value) (h : HP w b F t vi vo) (off n : Int) (ho : In64 off) (z : Int) (hz : (plK t off n : Int) = z) (h10 : z < 10) :
    Calls Tryz.prog 150 #[.pointer (some ⟨b, 0, none⟩), .int .u64 off, .int .i64 n] w fun e w' => e = .returned (.tuple #[.int .i64 z, .bool true]) ∧ w = w' :=
  (find_any w b F t vi vo h off n ho).mono fun e w' ⟨hw, hq⟩ => by
    rcases hq with ⟨_, he⟩ | ⟨hk, _⟩
    · exact ⟨by rw [he, hz], hw⟩
    · omega
theorem find_out (w : World) (b : Nat) (F : Nat → Prop) (t : US) (vi vo : Value) (h : HP w b F t vi vo) (off n : Int) (ho : In64 off) (hz : plK t off n = 10) :
    Calls Tryz.prog 150 #[.pointer (some ⟨b, 0, none⟩), .int .u64 off, .int .i64 n] w fun e w' => e = .returned (.tuple #[.int .i64 0, .bool false]) ∧ w = w' :=
  (find_any w b F t vi vo h off n ho).mono fun e w' ⟨hw, hq⟩ => by
    rcases hq with ⟨hk, _⟩ | ⟨_, he⟩
    · omega
    · exact ⟨he, hw⟩
theorem bitP_1 (x : Int) (r : Bool) (hr : decide (x / 2 % 2 = 1) = r) (h0 : 0 ≤ x) (h1 : x < 256) (w : World) : Calls Tryz.prog 156 #[.int .u8 x, .int .i64 1] w fun e w' => e = .returned (.bool r) ∧ w = w' := by
  subst hr
  exact bitP_any x 1 (by decide) (by decide) h0 h1 w
theorem wrT_ok {t : US} (h : t.ok) (x : Int) (h0 : 0 ≤ x) (h1 : x < 256) (k : Nat) : (wrT t x k).ok := by
  unfold wrT
  split
  · exact sendT_ok h x
  · exact ⟨h.li, h.lo, ⟨by show 0 ≤ x % 16; omega, by show x % 16 < 16; omega⟩, h.fcr, h.lcr, h.mcr, h.scr, h.dl, h.dm⟩
  · refine ⟨?_, h.lo, h.ier, ⟨by show 0 ≤ x % 2; omega, by show x % 2 < 2; omega⟩, h.lcr, h.mcr, h.scr, h.dl, h.dm⟩
    show (if x / 2 % 2 = 1 then [] else t.inn).length ≤ 16
    split
    · simp
    · exact h.li
  · exact ⟨h.li, h.lo, h.ier, h.fcr, ⟨h0, h1⟩, h.mcr, h.scr, h.dl, h.dm⟩
  · exact ⟨h.li, h.lo, h.ier, h.fcr, h.lcr, ⟨by show 0 ≤ x % 32; omega, by show x % 32 < 32; omega⟩, h.scr, h.dl, h.dm⟩
  · exact ⟨h.li, h.lo, h.ier, h.fcr, h.lcr, h.mcr, ⟨h0, h1⟩, h.dl, h.dm⟩
  · exact ⟨h.li, h.lo, h.ier, h.fcr, h.lcr, h.mcr, h.scr, ⟨h0, h1⟩, h.dm⟩
  · exact ⟨h.li, h.lo, h.ier, h.fcr, h.lcr, h.mcr, h.scr, h.dl, ⟨h0, h1⟩⟩
  · exact h
theorem ierT_1 {t : US} {x : Int} (h : ¬ t.ier / 2 % 2 = 1) (h2 : x / 2 % 2 = 1) : ierT t x = { { t with sent := true } with ier := x % 16 } := by unfold ierT; rw [if_pos ⟨by omega, h2⟩]
theorem ierT_0 {t : US} {x : Int} (h : ¬ (¬ t.ier / 2 % 2 = 1 ∧ x / 2 % 2 = 1)) : ierT t x = { t with ier := x % 16 } := by unfold ierT; rw [if_neg (fun h2 => h ⟨by omega, h2.2⟩)]
theorem fcrT_1 {t : US} {x : Int} (h : x / 2 % 2 = 1) : fcrT t x = { { t with inn := [] } with fcr := x % 2 } := by unfold fcrT; rw [if_pos h]
theorem fcrT_0 {t : US} {x : Int} (h : ¬ x / 2 % 2 = 1) : fcrT t x = { t with fcr := x % 2 } := by unfold fcrT; rw [if_neg h]

theorem htb2 {w w' : World} {F : Nat → Prop} (h : Tab w) (hnt : ¬ F 1) (o : Only F w w') : Tab w' := h.keeps o hnt

set_option maxRecDepth 100000 in
set_option maxHeartbeats 4000000 in
theorem write_0 (w : World) (b : Nat) (F : Nat → Prop) (t : US) (vi vo : Value) (h : HP w b F t vi vo) (htb : Tab w) (hnt : ¬ F 1) (off n v : Int) (ho : In64 off) (hv : In64 v) (hk : plK t off n = 0) :
    Calls Tryz.prog 129 #[.pointer (some ⟨b, 0, none⟩), .int .u64 off, .int .i64 n, .int .u64 v] w (TellU w b F (.bool true) (wrT t (v % 256) 0)) := by
  have HFIND := Lib.hid (find_at w b F t vi vo h off n ho 0 (by rw [hk]; rfl) (by decide))
  have hw : IntKind.u8.wrap v = v % 256 := wrap8 v hv.1
  have x0 : 0 ≤ v % 256 := by omega
  have x1 : v % 256 < 256 := by omega
  have hw' : IntKind.u8.wrap (v % 256) = v % 256 := by rw [wrap8 _ x0]; omega
  generalize v % 256 = x at *
  have hand := and8_0 x0 x1
  have OK := Lib.hid (wrT_ok h.ok x x0 x1 0)
  have HT := Lib.hid htb
  have HW := Lib.hid hw
  have H := Lib.hid h
  clear hk ho hv htb
  have HSEND := Lib.hid (send_any w b F t vi vo h x ⟨x0, x1⟩)
  clear h hw
  have hw := HW.out
  go_enter Tryz.func129, Tryz.ntmps129
  go_upto_region 14 with (first
    | (go_at_call 150; refine (HFIND.out).mono ?_; rintro e w' ⟨rfl, rfl⟩)
    | (go_at_call 154; refine (HSEND.out).mono ?_; rintro e w1 ⟨⟨u, rfl⟩, ho, F1, hF1, vi1, vo1, h1⟩; have H1 := Lib.hid h1; have HO1 := Lib.hid ho; have HF1 := Lib.hid hF1; clear h1 ho hF1))
  have HT1 := Lib.hid (HT.out.keeps HO1.out hnt)
  have HD := Lib.hid (H1.out.keeps (T := fun _ => False) ((Only.refl _ w1).drewN 1) fun _ _ => id)
  have HOD := Lib.hid ((HO1.out).drewN 1)
  have fk := HD.out.free 4
  have dk := HD.out.pregs
  have hand2 := hand
  have f1 := H1.out.free 4
  have c1 := H1.out.pregs
  have ck : w1.cell? ⟨1, 0, none⟩ = some (.int .u8 0) := HT1.out.cell 0 rfl
  obtain ⟨r4, r5, r6, r7, r8, r9, r10, r11, r12, r13⟩ := dk
  obtain ⟨q4, q5, q6, q7, q8, q9, q10, q11, q12, q13⟩ := c1
  go_still_tail 10, (by kernel_rfl)
  change wpList _ _ _ _ _ (World.drewN w1 1)
  clear q4 q5 q6 q7 q8 q9 q10 q11 q12 q13 ck f1
  generalize World.drewN w1 1 = w2 at *
  go_wp2
  go_ret
  exact ⟨rfl, EndU.step HOD.out HF1.out (EndU.set HD.out 4 (.int .u8 0) rfl rfl OK.out rfl)⟩

set_option maxRecDepth 100000 in
set_option maxHeartbeats 4000000 in
theorem write_1 (w : World) (b : Nat) (F : Nat → Prop) (t : US) (vi vo : Value) (h : HP w b F t vi vo) (htb : Tab w) (hnt : ¬ F 1) (off n v : Int) (ho : In64 off) (hv : In64 v) (hk : plK t off n = 1) :
    Calls Tryz.prog 129 #[.pointer (some ⟨b, 0, none⟩), .int .u64 off, .int .i64 n, .int .u64 v] w (TellU w b F (.bool true) (wrT t (v % 256) 1)) := by
  have HFIND := Lib.hid (find_at w b F t vi vo h off n ho 1 (by rw [hk]; rfl) (by decide))
  have hw : IntKind.u8.wrap v = v % 256 := wrap8 v hv.1
  have x0 : 0 ≤ v % 256 := by omega
  have x1 : v % 256 < 256 := by omega
  have hw' : IntKind.u8.wrap (v % 256) = v % 256 := by rw [wrap8 _ x0]; omega
  generalize v % 256 = x at *
  have hand := and8_15 x0 x1
  have OK := Lib.hid (wrT_ok h.ok x x0 x1 1)
  have HT := Lib.hid htb
  have HW := Lib.hid hw
  have H := Lib.hid h
  clear hk ho hv htb
  have h11 := hasV_sent t
  have H1 := Lib.hid (h.set 3 (.bool true) (t' := { t with sent := true }) rfl rfl (ok_sent h.ok true) rfl)
  have HO1 := Lib.hid ((Only.refl F w).setCell (p := ⟨b, 3, none⟩) (.inl h.fb) (.bool true))
  have HT1 := Lib.hid (htb2 HT.out hnt HO1.out)
  have HF1 : Hid (∀ i, F i → F i ∨ w.heap.size ≤ i) := Lib.hid fun i hi => .inl hi
  have f3 := h.free 3
  have c3 := h.cell 3 (v := .bool t.sent) rfl
  clear h hw
  have hw := HW.out
  change Calls _ _ _ _ (TellU w b F (.bool true) (ierT t x))
  by_cases hA : t.ier / 2 % 2 = 1
  · have hT := ierT_0 (t := t) (x := x) (fun h => h.1 hA)
    have OK2 : Hid (ierT t x).ok := OK
    rw [decide_eq_true hA] at h11
    rw [hT] at OK2 ⊢
    clear hT OK hA H1 HO1 HT1
    have OK := OK2
    go_enter Tryz.func129, Tryz.ntmps129
    go_upto_region 14 with (first
      | (go_at_call 150; refine (HFIND.out).mono ?_; rintro e w' ⟨rfl, rfl⟩)
      | (go_at_call 155; refine (has_any _ b F _ vi vo H.out _ _ (by decide) (by decide)).mono ?_; rintro e w' ⟨rfl, rfl⟩))
    have HO1 := Lib.hid (Only.refl F w)
    have HD := Lib.hid (H.out.keeps (T := fun _ => False) ((Only.refl _ w).drewN 1) fun _ _ => id)
    have HOD := Lib.hid ((HO1.out).drewN 1)
    have fk := HD.out.free 5
    have dk := HD.out.pregs
    have hand2 := hand
    have f1 := H.out.free 5
    have c1 := H.out.pregs
    have ck : w.cell? ⟨1, 1, none⟩ = some (.int .u8 15) := HT.out.cell 1 rfl
    obtain ⟨r4, r5, r6, r7, r8, r9, r10, r11, r12, r13⟩ := dk
    obtain ⟨q4, q5, q6, q7, q8, q9, q10, q11, q12, q13⟩ := c1
    go_still_tail 10, (by kernel_rfl)
    change wpList _ _ _ _ _ (World.drewN w 1)
    clear q4 q5 q6 q7 q8 q9 q10 q11 q12 q13 ck f1
    generalize World.drewN w 1 = w2 at *
    go_wp2
    go_ret
    exact ⟨rfl, EndU.step HOD.out HF1.out (EndU.set HD.out 5 (.int .u8 (x % 16)) rfl rfl OK.out rfl)⟩
  · rw [decide_eq_false hA] at h11
    by_cases hB : x / 2 % 2 = 1
    · have hT := ierT_1 (t := t) (x := x) hA hB
      have OK2 : Hid (ierT t x).ok := OK
      have hb : decide (x / 2 % 2 = 1) = true := decide_eq_true hB
      have HBIT := Lib.hid (bitP_1 x true hb x0 x1)
      rw [hT] at OK2 ⊢
      clear hT OK hA hB hb
      have OK := OK2
      go_enter Tryz.func129, Tryz.ntmps129
      go_upto_region 14 with (first
        | (go_at_call 150; refine (HFIND.out).mono ?_; rintro e w' ⟨rfl, rfl⟩)
        | (go_at_call 155; refine (has_any _ b F _ vi vo H.out _ _ (by decide) (by decide)).mono ?_; rintro e w' ⟨rfl, rfl⟩)
        | (go_at_call 156; refine (HBIT.out _).mono ?_; rintro e w' ⟨rfl, rfl⟩))
      generalize w.setCell ⟨b, 3, none⟩ (.bool true) = w1 at *
      clear f3 c3
      have HD := Lib.hid (H1.out.keeps (T := fun _ => False) ((Only.refl _ w1).drewN 1) fun _ _ => id)
      have HOD := Lib.hid ((HO1.out).drewN 1)
      have fk := HD.out.free 5
      have dk := HD.out.pregs
      have hand2 := hand
      have f1 := H1.out.free 5
      have c1 := H1.out.pregs
      have ck : w1.cell? ⟨1, 1, none⟩ = some (.int .u8 15) := HT1.out.cell 1 rfl
      obtain ⟨r4, r5, r6, r7, r8, r9, r10, r11, r12, r13⟩ := dk
      obtain ⟨q4, q5, q6, q7, q8, q9, q10, q11, q12, q13⟩ := c1
      go_still_tail 10, (by kernel_rfl)
      change wpList _ _ _ _ _ (World.drewN w1 1)
      clear q4 q5 q6 q7 q8 q9 q10 q11 q12 q13 ck f1
      generalize World.drewN w1 1 = w2 at *
      go_wp2
      go_ret
      exact ⟨rfl, EndU.step HOD.out HF1.out (EndU.set HD.out 5 (.int .u8 (x % 16)) rfl rfl OK.out rfl)⟩
    · have hT := ierT_0 (t := t) (x := x) (fun h => hB h.2)
      have OK2 : Hid (ierT t x).ok := OK
      have hb : decide (x / 2 % 2 = 1) = false := decide_eq_false hB
      have HBIT := Lib.hid (bitP_1 x false hb x0 x1)
      rw [hT] at OK2 ⊢
      clear hT OK hA hB hb H1 HO1 HT1
      have OK := OK2
      go_enter Tryz.func129, Tryz.ntmps129
      go_upto_region 14 with (first
        | (go_at_call 150; refine (HFIND.out).mono ?_; rintro e w' ⟨rfl, rfl⟩)
        | (go_at_call 155; refine (has_any _ b F _ vi vo H.out _ _ (by decide) (by decide)).mono ?_; rintro e w' ⟨rfl, rfl⟩)
        | (go_at_call 156; refine (HBIT.out _).mono ?_; rintro e w' ⟨rfl, rfl⟩))
      have HO1 := Lib.hid (Only.refl F w)
      have HD := Lib.hid (H.out.keeps (T := fun _ => False) ((Only.refl _ w).drewN 1) fun _ _ => id)
      have HOD := Lib.hid ((HO1.out).drewN 1)
      have fk := HD.out.free 5
      have dk := HD.out.pregs
      have hand2 := hand
      have f1 := H.out.free 5
      have c1 := H.out.pregs
      have ck : w.cell? ⟨1, 1, none⟩ = some (.int .u8 15) := HT.out.cell 1 rfl
      obtain ⟨r4, r5, r6, r7, r8, r9, r10, r11, r12, r13⟩ := dk
      obtain ⟨q4, q5, q6, q7, q8, q9, q10, q11, q12, q13⟩ := c1
      go_still_tail 10, (by kernel_rfl)
      change wpList _ _ _ _ _ (World.drewN w 1)
      clear q4 q5 q6 q7 q8 q9 q10 q11 q12 q13 ck f1
      generalize World.drewN w 1 = w2 at *
      go_wp2
      go_ret
      exact ⟨rfl, EndU.step HOD.out HF1.out (EndU.set HD.out 5 (.int .u8 (x % 16)) rfl rfl OK.out rfl)⟩

set_option maxRecDepth 100000 in
set_option maxHeartbeats 4000000 in
theorem write_2 (w : World) (b : Nat) (F : Nat → Prop) (t : US) (vi vo : Value) (h : HP w b F t vi vo) (htb : Tab w) (hnt : ¬ F 1) (off n v : Int) (ho : In64 off) (hv : In64 v) (hk : plK t off n = 2) :
    Calls Tryz.prog 129 #[.pointer (some ⟨b, 0, none⟩), .int .u64 off, .int .i64 n, .int .u64 v] w (TellU w b F (.bool true) (wrT t (v % 256) 2)) := by
  have HFIND := Lib.hid (find_at w b F t vi vo h off n ho 2 (by rw [hk]; rfl) (by decide))
  have hw : IntKind.u8.wrap v = v % 256 := wrap8 v hv.1
  have x0 : 0 ≤ v % 256 := by omega
  have x1 : v % 256 < 256 := by omega
  have hw' : IntKind.u8.wrap (v % 256) = v % 256 := by rw [wrap8 _ x0]; omega
  generalize v % 256 = x at *
  have hand := and8_1 x0 x1
  have OK := Lib.hid (wrT_ok h.ok x x0 x1 2)
  have HT := Lib.hid htb
  have HW := Lib.hid hw
  have H := Lib.hid h
  clear hk ho hv htb
  have hli := h.ok.li
  have E1 : Hid (EndU cellsP 131 w b F { t with inn := [] } (w.setCell ⟨b, 0, none⟩ (.slice none 0 0))) := Lib.hid (EndU.turnIn (t' := { t with inn := [] }) h (Only.refl _ w) (RowB.nil w) (fun g hg => by cases hg) rfl (ok_inn h.ok (by simp)) rfl)
  have f0 := h.free 0
  have c0 := h.cell 0 (v := vi) rfl
  clear h hw
  have hw := HW.out
  change Calls _ _ _ _ (TellU w b F (.bool true) (fcrT t x))
  by_cases hB : x / 2 % 2 = 1
  · have hT := fcrT_1 (t := t) (x := x) hB
    have OK2 : Hid (fcrT t x).ok := OK
    have hb : decide (x / 2 % 2 = 1) = true := decide_eq_true hB
    have HBIT := Lib.hid (bitP_1 x true hb x0 x1)
    rw [hT] at OK2 ⊢
    clear hT OK hB hb hli
    have OK := OK2
    go_enter Tryz.func129, Tryz.ntmps129
    go_upto_region 14 with (first
      | (go_at_call 150; refine (HFIND.out).mono ?_; rintro e w' ⟨rfl, rfl⟩)
      | (go_at_call 156; refine (HBIT.out _).mono ?_; rintro e w' ⟨rfl, rfl⟩))
    obtain ⟨ho, F1, hF1, vi1, vo1, h1⟩ := E1.out
    generalize w.setCell ⟨b, 0, none⟩ (.slice none 0 0) = w1 at *
    have H1 := Lib.hid h1
    have HO1 := Lib.hid ho
    have HF1 := Lib.hid hF1
    have HT1 := Lib.hid (htb2 HT.out hnt ho)
    clear h1 ho hF1 E1 f0 c0
    have HD := Lib.hid (H1.out.keeps (T := fun _ => False) ((Only.refl _ w1).drewN 1) fun _ _ => id)
    have HOD := Lib.hid ((HO1.out).drewN 1)
    have fk := HD.out.free 6
    have dk := HD.out.pregs
    have hand2 := hand
    have f1 := H1.out.free 6
    have c1 := H1.out.pregs
    have ck : w1.cell? ⟨1, 2, none⟩ = some (.int .u8 1) := HT1.out.cell 2 rfl
    obtain ⟨r4, r5, r6, r7, r8, r9, r10, r11, r12, r13⟩ := dk
    obtain ⟨q4, q5, q6, q7, q8, q9, q10, q11, q12, q13⟩ := c1
    go_still_tail 10, (by kernel_rfl)
    change wpList _ _ _ _ _ (World.drewN w1 1)
    clear q4 q5 q6 q7 q8 q9 q10 q11 q12 q13 ck f1
    generalize World.drewN w1 1 = w2 at *
    go_wp2
    go_ret
    exact ⟨rfl, EndU.step HOD.out HF1.out (EndU.set HD.out 6 (.int .u8 (x % 2)) rfl rfl OK.out rfl)⟩
  · have hT := fcrT_0 (t := t) (x := x) hB
    have OK2 : Hid (fcrT t x).ok := OK
    have hb : decide (x / 2 % 2 = 1) = false := decide_eq_false hB
    have HBIT := Lib.hid (bitP_1 x false hb x0 x1)
    rw [hT] at OK2 ⊢
    clear hT OK hB hb hli E1 f0 c0
    have OK := OK2
    have HO1 := Lib.hid (Only.refl F w)
    have HF1 : Hid (∀ i, F i → F i ∨ w.heap.size ≤ i) := Lib.hid fun i hi => .inl hi
    go_enter Tryz.func129, Tryz.ntmps129
    go_upto_region 14 with (first
      | (go_at_call 150; refine (HFIND.out).mono ?_; rintro e w' ⟨rfl, rfl⟩)
      | (go_at_call 156; refine (HBIT.out _).mono ?_; rintro e w' ⟨rfl, rfl⟩))
    have HD := Lib.hid (H.out.keeps (T := fun _ => False) ((Only.refl _ w).drewN 1) fun _ _ => id)
    have HOD := Lib.hid ((HO1.out).drewN 1)
    have fk := HD.out.free 6
    have dk := HD.out.pregs
    have hand2 := hand
    have f1 := H.out.free 6
    have c1 := H.out.pregs
    have ck : w.cell? ⟨1, 2, none⟩ = some (.int .u8 1) := HT.out.cell 2 rfl
    obtain ⟨r4, r5, r6, r7, r8, r9, r10, r11, r12, r13⟩ := dk
    obtain ⟨q4, q5, q6, q7, q8, q9, q10, q11, q12, q13⟩ := c1
    go_still_tail 10, (by kernel_rfl)
    change wpList _ _ _ _ _ (World.drewN w 1)
    clear q4 q5 q6 q7 q8 q9 q10 q11 q12 q13 ck f1
    generalize World.drewN w 1 = w2 at *
    go_wp2
    go_ret
    exact ⟨rfl, EndU.step HOD.out HF1.out (EndU.set HD.out 6 (.int .u8 (x % 2)) rfl rfl OK.out rfl)⟩

set_option maxRecDepth 100000 in
set_option maxHeartbeats 4000000 in
theorem write_3 (w : World) (b : Nat) (F : Nat → Prop) (t : US) (vi vo : Value) (h : HP w b F t vi vo) (htb : Tab w) (hnt : ¬ F 1) (off n v : Int) (ho : In64 off) (hv : In64 v) (hk : plK t off n = 3) :
    Calls Tryz.prog 129 #[.pointer (some ⟨b, 0, none⟩), .int .u64 off, .int .i64 n, .int .u64 v] w (TellU w b F (.bool true) (wrT t (v % 256) 3)) := by
  have HFIND := Lib.hid (find_at w b F t vi vo h off n ho 3 (by rw [hk]; rfl) (by decide))
  have hw : IntKind.u8.wrap v = v % 256 := wrap8 v hv.1
  have x0 : 0 ≤ v % 256 := by omega
  have x1 : v % 256 < 256 := by omega
  have hw' : IntKind.u8.wrap (v % 256) = v % 256 := by rw [wrap8 _ x0]; omega
  generalize v % 256 = x at *
  have hand := and8_255 x0 x1
  have OK := Lib.hid (wrT_ok h.ok x x0 x1 3)
  have HT := Lib.hid htb
  have HW := Lib.hid hw
  have H := Lib.hid h
  clear hk ho hv htb
  clear h hw
  have hw := HW.out
  have HO1 := Lib.hid (Only.refl F w)
  have HF1 : Hid (∀ i, F i → F i ∨ w.heap.size ≤ i) := Lib.hid fun i hi => .inl hi
  go_enter Tryz.func129, Tryz.ntmps129
  go_upto_region 14 with (go_at_call 150; refine (HFIND.out).mono ?_; rintro e w' ⟨rfl, rfl⟩)
  have HD := Lib.hid (H.out.keeps (T := fun _ => False) ((Only.refl _ w).drewN 1) fun _ _ => id)
  have HOD := Lib.hid ((HO1.out).drewN 1)
  have fk := HD.out.free 7
  have dk := HD.out.pregs
  have hand2 := hand
  have f1 := H.out.free 7
  have c1 := H.out.pregs
  have ck : w.cell? ⟨1, 3, none⟩ = some (.int .u8 255) := HT.out.cell 3 rfl
  obtain ⟨r4, r5, r6, r7, r8, r9, r10, r11, r12, r13⟩ := dk
  obtain ⟨q4, q5, q6, q7, q8, q9, q10, q11, q12, q13⟩ := c1
  go_still_tail 10, (by kernel_rfl)
  change wpList _ _ _ _ _ (World.drewN w 1)
  clear q4 q5 q6 q7 q8 q9 q10 q11 q12 q13 ck f1
  generalize World.drewN w 1 = w2 at *
  go_wp2
  go_ret
  exact ⟨rfl, EndU.step HOD.out HF1.out (EndU.set HD.out 7 (.int .u8 x) rfl rfl OK.out rfl)⟩

set_option maxRecDepth 100000 in
set_option maxHeartbeats 4000000 in
theorem write_4 (w : World) (b : Nat) (F : Nat → Prop) (t : US) (vi vo : Value) (h : HP w b F t vi vo) (htb : Tab w) (hnt : ¬ F 1) (off n v : Int) (ho : In64 off) (hv : In64 v) (hk : plK t off n = 4) :
    Calls Tryz.prog 129 #[.pointer (some ⟨b, 0, none⟩), .int .u64 off, .int .i64 n, .int .u64 v] w (TellU w b F (.bool true) (wrT t (v % 256) 4)) := by
  have HFIND := Lib.hid (find_at w b F t vi vo h off n ho 4 (by rw [hk]; rfl) (by decide))
  have hw : IntKind.u8.wrap v = v % 256 := wrap8 v hv.1
  have x0 : 0 ≤ v % 256 := by omega
  have x1 : v % 256 < 256 := by omega
  have hw' : IntKind.u8.wrap (v % 256) = v % 256 := by rw [wrap8 _ x0]; omega
  generalize v % 256 = x at *
  have hand := and8_31 x0 x1
  have OK := Lib.hid (wrT_ok h.ok x x0 x1 4)
  have HT := Lib.hid htb
  have HW := Lib.hid hw
  have H := Lib.hid h
  clear hk ho hv htb
  clear h hw
  have hw := HW.out
  have HO1 := Lib.hid (Only.refl F w)
  have HF1 : Hid (∀ i, F i → F i ∨ w.heap.size ≤ i) := Lib.hid fun i hi => .inl hi
  go_enter Tryz.func129, Tryz.ntmps129
  go_upto_region 14 with (go_at_call 150; refine (HFIND.out).mono ?_; rintro e w' ⟨rfl, rfl⟩)
  have HD := Lib.hid (H.out.keeps (T := fun _ => False) ((Only.refl _ w).drewN 1) fun _ _ => id)
  have HOD := Lib.hid ((HO1.out).drewN 1)
  have fk := HD.out.free 8
  have dk := HD.out.pregs
  have hand2 := hand
  have f1 := H.out.free 8
  have c1 := H.out.pregs
  have ck : w.cell? ⟨1, 4, none⟩ = some (.int .u8 31) := HT.out.cell 4 rfl
  obtain ⟨r4, r5, r6, r7, r8, r9, r10, r11, r12, r13⟩ := dk
  obtain ⟨q4, q5, q6, q7, q8, q9, q10, q11, q12, q13⟩ := c1
  go_still_tail 10, (by kernel_rfl)
  change wpList _ _ _ _ _ (World.drewN w 1)
  clear q4 q5 q6 q7 q8 q9 q10 q11 q12 q13 ck f1
  generalize World.drewN w 1 = w2 at *
  go_wp2
  go_ret
  exact ⟨rfl, EndU.step HOD.out HF1.out (EndU.set HD.out 8 (.int .u8 (x % 32)) rfl rfl OK.out rfl)⟩

set_option maxRecDepth 100000 in
set_option maxHeartbeats 4000000 in
theorem write_5 (w : World) (b : Nat) (F : Nat → Prop) (t : US) (vi vo : Value) (h : HP w b F t vi vo) (htb : Tab w) (hnt : ¬ F 1) (off n v : Int) (ho : In64 off) (hv : In64 v) (hk : plK t off n = 5) :
    Calls Tryz.prog 129 #[.pointer (some ⟨b, 0, none⟩), .int .u64 off, .int .i64 n, .int .u64 v] w (TellU w b F (.bool true) (wrT t (v % 256) 5)) := by
  have HFIND := Lib.hid (find_at w b F t vi vo h off n ho 5 (by rw [hk]; rfl) (by decide))
  have hw : IntKind.u8.wrap v = v % 256 := wrap8 v hv.1
  have x0 : 0 ≤ v % 256 := by omega
  have x1 : v % 256 < 256 := by omega
  have hw' : IntKind.u8.wrap (v % 256) = v % 256 := by rw [wrap8 _ x0]; omega
  generalize v % 256 = x at *
  have hand := and8_0 x0 x1
  have OK := Lib.hid (wrT_ok h.ok x x0 x1 5)
  have HT := Lib.hid htb
  have HW := Lib.hid hw
  have H := Lib.hid h
  clear hk ho hv htb
  clear h hw
  have hw := HW.out
  have HO1 := Lib.hid (Only.refl F w)
  have HF1 : Hid (∀ i, F i → F i ∨ w.heap.size ≤ i) := Lib.hid fun i hi => .inl hi
  go_enter Tryz.func129, Tryz.ntmps129
  go_upto_region 14 with (go_at_call 150; refine (HFIND.out).mono ?_; rintro e w' ⟨rfl, rfl⟩)
  have HD := Lib.hid (H.out.keeps (T := fun _ => False) ((Only.refl _ w).drewN 1) fun _ _ => id)
  have HOD := Lib.hid ((HO1.out).drewN 1)
  have fk := HD.out.free 9
  have dk := HD.out.pregs
  have hand2 := hand
  have f1 := H.out.free 9
  have c1 := H.out.pregs
  have ck : w.cell? ⟨1, 5, none⟩ = some (.int .u8 0) := HT.out.cell 5 rfl
  obtain ⟨r4, r5, r6, r7, r8, r9, r10, r11, r12, r13⟩ := dk
  obtain ⟨q4, q5, q6, q7, q8, q9, q10, q11, q12, q13⟩ := c1
  go_still_tail 10, (by kernel_rfl)
  change wpList _ _ _ _ _ (World.drewN w 1)
  clear q4 q5 q6 q7 q8 q9 q10 q11 q12 q13 ck f1
  generalize World.drewN w 1 = w2 at *
  go_wp2
  go_ret
  exact ⟨rfl, EndU.step HOD.out HF1.out (EndU.set HD.out 9 (.int .u8 0) rfl rfl OK.out rfl)⟩

set_option maxRecDepth 100000 in
set_option maxHeartbeats 4000000 in
theorem write_6 (w : World) (b : Nat) (F : Nat → Prop) (t : US) (vi vo : Value) (h : HP w b F t vi vo) (htb : Tab w) (hnt : ¬ F 1) (off n v : Int) (ho : In64 off) (hv : In64 v) (hk : plK t off n = 6) :
    Calls Tryz.prog 129 #[.pointer (some ⟨b, 0, none⟩), .int .u64 off, .int .i64 n, .int .u64 v] w (TellU w b F (.bool true) (wrT t (v % 256) 6)) := by
  have HFIND := Lib.hid (find_at w b F t vi vo h off n ho 6 (by rw [hk]; rfl) (by decide))
  have hw : IntKind.u8.wrap v = v % 256 := wrap8 v hv.1
  have x0 : 0 ≤ v % 256 := by omega
  have x1 : v % 256 < 256 := by omega
  have hw' : IntKind.u8.wrap (v % 256) = v % 256 := by rw [wrap8 _ x0]; omega
  generalize v % 256 = x at *
  have hand := and8_0 x0 x1
  have OK := Lib.hid (wrT_ok h.ok x x0 x1 6)
  have HT := Lib.hid htb
  have HW := Lib.hid hw
  have H := Lib.hid h
  clear hk ho hv htb
  clear h hw
  have hw := HW.out
  have HO1 := Lib.hid (Only.refl F w)
  have HF1 : Hid (∀ i, F i → F i ∨ w.heap.size ≤ i) := Lib.hid fun i hi => .inl hi
  go_enter Tryz.func129, Tryz.ntmps129
  go_upto_region 14 with (go_at_call 150; refine (HFIND.out).mono ?_; rintro e w' ⟨rfl, rfl⟩)
  have HD := Lib.hid (H.out.keeps (T := fun _ => False) ((Only.refl _ w).drewN 1) fun _ _ => id)
  have HOD := Lib.hid ((HO1.out).drewN 1)
  have fk := HD.out.free 10
  have dk := HD.out.pregs
  have hand2 := hand
  have f1 := H.out.free 10
  have c1 := H.out.pregs
  have ck : w.cell? ⟨1, 6, none⟩ = some (.int .u8 0) := HT.out.cell 6 rfl
  obtain ⟨r4, r5, r6, r7, r8, r9, r10, r11, r12, r13⟩ := dk
  obtain ⟨q4, q5, q6, q7, q8, q9, q10, q11, q12, q13⟩ := c1
  go_still_tail 10, (by kernel_rfl)
  change wpList _ _ _ _ _ (World.drewN w 1)
  clear q4 q5 q6 q7 q8 q9 q10 q11 q12 q13 ck f1
  generalize World.drewN w 1 = w2 at *
  go_wp2
  go_ret
  exact ⟨rfl, EndU.step HOD.out HF1.out (EndU.set HD.out 10 (.int .u8 0) rfl rfl OK.out rfl)⟩

set_option maxRecDepth 100000 in
set_option maxHeartbeats 4000000 in
theorem write_7 (w : World) (b : Nat) (F : Nat → Prop) (t : US) (vi vo : Value) (h : HP w b F t vi vo) (htb : Tab w) (hnt : ¬ F 1) (off n v : Int) (ho : In64 off) (hv : In64 v) (hk : plK t off n = 7) :
    Calls Tryz.prog 129 #[.pointer (some ⟨b, 0, none⟩), .int .u64 off, .int .i64 n, .int .u64 v] w (TellU w b F (.bool true) (wrT t (v % 256) 7)) := by
  have HFIND := Lib.hid (find_at w b F t vi vo h off n ho 7 (by rw [hk]; rfl) (by decide))
  have hw : IntKind.u8.wrap v = v % 256 := wrap8 v hv.1
  have x0 : 0 ≤ v % 256 := by omega
  have x1 : v % 256 < 256 := by omega
  have hw' : IntKind.u8.wrap (v % 256) = v % 256 := by rw [wrap8 _ x0]; omega
  generalize v % 256 = x at *
  have hand := and8_255 x0 x1
  have OK := Lib.hid (wrT_ok h.ok x x0 x1 7)
  have HT := Lib.hid htb
  have HW := Lib.hid hw
  have H := Lib.hid h
  clear hk ho hv htb
  clear h hw
  have hw := HW.out
  have HO1 := Lib.hid (Only.refl F w)
  have HF1 : Hid (∀ i, F i → F i ∨ w.heap.size ≤ i) := Lib.hid fun i hi => .inl hi
  go_enter Tryz.func129, Tryz.ntmps129
  go_upto_region 14 with (go_at_call 150; refine (HFIND.out).mono ?_; rintro e w' ⟨rfl, rfl⟩)
  have HD := Lib.hid (H.out.keeps (T := fun _ => False) ((Only.refl _ w).drewN 1) fun _ _ => id)
  have HOD := Lib.hid ((HO1.out).drewN 1)
  have fk := HD.out.free 11
  have dk := HD.out.pregs
  have hand2 := hand
  have f1 := H.out.free 11
  have c1 := H.out.pregs
  have ck : w.cell? ⟨1, 7, none⟩ = some (.int .u8 255) := HT.out.cell 7 rfl
  obtain ⟨r4, r5, r6, r7, r8, r9, r10, r11, r12, r13⟩ := dk
  obtain ⟨q4, q5, q6, q7, q8, q9, q10, q11, q12, q13⟩ := c1
  go_still_tail 10, (by kernel_rfl)
  change wpList _ _ _ _ _ (World.drewN w 1)
  clear q4 q5 q6 q7 q8 q9 q10 q11 q12 q13 ck f1
  generalize World.drewN w 1 = w2 at *
  go_wp2
  go_ret
  exact ⟨rfl, EndU.step HOD.out HF1.out (EndU.set HD.out 11 (.int .u8 x) rfl rfl OK.out rfl)⟩

set_option maxRecDepth 100000 in
set_option maxHeartbeats 4000000 in
theorem write_8 (w : World) (b : Nat) (F : Nat → Prop) (t : US) (vi vo : Value) (h : HP w b F t vi vo) (htb : Tab w) (hnt : ¬ F 1) (off n v : Int) (ho : In64 off) (hv : In64 v) (hk : plK t off n = 8) :
    Calls Tryz.prog 129 #[.pointer (some ⟨b, 0, none⟩), .int .u64 off, .int .i64 n, .int .u64 v] w (TellU w b F (.bool true) (wrT t (v % 256) 8)) := by
  have HFIND := Lib.hid (find_at w b F t vi vo h off n ho 8 (by rw [hk]; rfl) (by decide))
  have hw : IntKind.u8.wrap v = v % 256 := wrap8 v hv.1
  have x0 : 0 ≤ v % 256 := by omega
  have x1 : v % 256 < 256 := by omega
  have hw' : IntKind.u8.wrap (v % 256) = v % 256 := by rw [wrap8 _ x0]; omega
  generalize v % 256 = x at *
  have hand := and8_255 x0 x1
  have OK := Lib.hid (wrT_ok h.ok x x0 x1 8)
  have HT := Lib.hid htb
  have HW := Lib.hid hw
  have H := Lib.hid h
  clear hk ho hv htb
  clear h hw
  have hw := HW.out
  have HO1 := Lib.hid (Only.refl F w)
  have HF1 : Hid (∀ i, F i → F i ∨ w.heap.size ≤ i) := Lib.hid fun i hi => .inl hi
  go_enter Tryz.func129, Tryz.ntmps129
  go_upto_region 14 with (go_at_call 150; refine (HFIND.out).mono ?_; rintro e w' ⟨rfl, rfl⟩)
  have HD := Lib.hid (H.out.keeps (T := fun _ => False) ((Only.refl _ w).drewN 1) fun _ _ => id)
  have HOD := Lib.hid ((HO1.out).drewN 1)
  have fk := HD.out.free 12
  have dk := HD.out.pregs
  have hand2 := hand
  have f1 := H.out.free 12
  have c1 := H.out.pregs
  have ck : w.cell? ⟨1, 8, none⟩ = some (.int .u8 255) := HT.out.cell 8 rfl
  obtain ⟨r4, r5, r6, r7, r8, r9, r10, r11, r12, r13⟩ := dk
  obtain ⟨q4, q5, q6, q7, q8, q9, q10, q11, q12, q13⟩ := c1
  go_still_tail 10, (by kernel_rfl)
  change wpList _ _ _ _ _ (World.drewN w 1)
  clear q4 q5 q6 q7 q8 q9 q10 q11 q12 q13 ck f1
  generalize World.drewN w 1 = w2 at *
  go_wp2
  go_ret
  exact ⟨rfl, EndU.step HOD.out HF1.out (EndU.set HD.out 12 (.int .u8 x) rfl rfl OK.out rfl)⟩

set_option maxRecDepth 100000 in
set_option maxHeartbeats 4000000 in
theorem write_9 (w : World) (b : Nat) (F : Nat → Prop) (t : US) (vi vo : Value) (h : HP w b F t vi vo) (htb : Tab w) (hnt : ¬ F 1) (off n v : Int) (ho : In64 off) (hv : In64 v) (hk : plK t off n = 9) :
    Calls Tryz.prog 129 #[.pointer (some ⟨b, 0, none⟩), .int .u64 off, .int .i64 n, .int .u64 v] w (TellU w b F (.bool true) (wrT t (v % 256) 9)) := by
  have HFIND := Lib.hid (find_at w b F t vi vo h off n ho 9 (by rw [hk]; rfl) (by decide))
  have hw : IntKind.u8.wrap v = v % 256 := wrap8 v hv.1
  have x0 : 0 ≤ v % 256 := by omega
  have x1 : v % 256 < 256 := by omega
  have hw' : IntKind.u8.wrap (v % 256) = v % 256 := by rw [wrap8 _ x0]; omega
  generalize v % 256 = x at *
  have hand := and8_255 x0 x1
  have OK := Lib.hid (wrT_ok h.ok x x0 x1 9)
  have HT := Lib.hid htb
  have HW := Lib.hid hw
  have H := Lib.hid h
  clear hk ho hv htb
  clear h hw
  have hw := HW.out
  have HO1 := Lib.hid (Only.refl F w)
  have HF1 : Hid (∀ i, F i → F i ∨ w.heap.size ≤ i) := Lib.hid fun i hi => .inl hi
  go_enter Tryz.func129, Tryz.ntmps129
  go_upto_region 14 with (go_at_call 150; refine (HFIND.out).mono ?_; rintro e w' ⟨rfl, rfl⟩)
  have HD := Lib.hid (H.out.keeps (T := fun _ => False) ((Only.refl _ w).drewN 1) fun _ _ => id)
  have HOD := Lib.hid ((HO1.out).drewN 1)
  have fk := HD.out.free 13
  have dk := HD.out.pregs
  have hand2 := hand
  have f1 := H.out.free 13
  have c1 := H.out.pregs
  have ck : w.cell? ⟨1, 9, none⟩ = some (.int .u8 255) := HT.out.cell 9 rfl
  obtain ⟨r4, r5, r6, r7, r8, r9, r10, r11, r12, r13⟩ := dk
  obtain ⟨q4, q5, q6, q7, q8, q9, q10, q11, q12, q13⟩ := c1
  go_still_tail 10, (by kernel_rfl)
  change wpList _ _ _ _ _ (World.drewN w 1)
  clear q4 q5 q6 q7 q8 q9 q10 q11 q12 q13 ck f1
  generalize World.drewN w 1 = w2 at *
  go_wp2
  go_ret
  exact ⟨rfl, EndU.step HOD.out HF1.out (EndU.set HD.out 13 (.int .u8 x) rfl rfl OK.out rfl)⟩

end Go.Proofs.YtbcnkhfpogglmaaGreatDoor.U6

namespace Go.Proofs.YtbcnkhfpogglmaaGreatDoor.U6
open Go.RowKit
set_option linter.unusedVariables false
set_option maxRecDepth 100000

theorem rdX_bd {t : US} (h : t.ok) (hb : Byt t.inn) (k : Nat) : 0 ≤ rdX t k ∧ rdX t k < 256 := by
  have e1 := h.ier
  have e2 := h.lcr
  have e3 := h.mcr
  have e4 := h.scr
  have e5 := h.dl
  have e6 := h.dm
  unfold rdX
  split
  · by_cases hn : 0 < t.inn.length
    · exact hb.get hn
    · have : t.inn.getD 0 0 = 0 := by simp [List.getD, show t.inn = [] from List.eq_nil_of_length_eq_zero (by omega)]
      omega
  · omega
  · rcases rsn_vals t with hr | hr | hr <;> (rw [hr]; split <;> omega)
  · omega
  · omega
  · split <;> split <;> omega
  · omega
  · omega
  · omega
  · omega
  · omega

set_option maxRecDepth 100000 in
set_option maxHeartbeats 4000000 in
theorem read_0 (w : World) (b : Nat) (F : Nat → Prop) (t : US) (vi vo : Value) (h : HP w b F t vi vo) (off n : Int) (ho : In64 off) (hk : plK t off n = 0) :
    Calls Tryz.prog 128 #[.pointer (some ⟨b, 0, none⟩), .int .u64 off, .int .i64 n] w (TellU w b F (.tuple #[.int .u64 (rdX t 0), .bool true]) (rdT t 0)) := by
  have HFIND := Lib.hid (find_at w b F t vi vo h off n ho 0 (by rw [hk]; rfl) (by decide))
  obtain ⟨c4, c5, c6, c7, c8, c9, c10, c11, c12, c13⟩ := h.pregs
  obtain ⟨x0, x1⟩ := rdX_bd h.ok h.ri.byt 0
  have H := Lib.hid h
  have HN : Hid (Calls Tryz.prog 151 #[.pointer (some ⟨b, 0, none⟩)] w fun e w' => e = .returned (.int .u8 (rdX t 0)) ∧ EndU cellsP 131 w b F (rdT t 0) w') := Lib.hid (next_any w b F t vi vo h)
  generalize rdX t 0 = X at *
  generalize rdT t 0 = T at *
  clear h hk ho
  go_enter Tryz.func128, Tryz.ntmps128
  go_wp2_with (first
    | (go_at_call 150; refine (HFIND.out).mono ?_; rintro e w' ⟨rfl, rfl⟩)
    | (go_at_call 151; refine (HN.out).mono ?_; rintro e w' ⟨rfl, hE⟩; have HE := Lib.hid hE; clear hE))
  go_ret2
  exact ⟨rfl, HE.out⟩

set_option maxRecDepth 100000 in
set_option maxHeartbeats 4000000 in
theorem read_1 (w : World) (b : Nat) (F : Nat → Prop) (t : US) (vi vo : Value) (h : HP w b F t vi vo) (off n : Int) (ho : In64 off) (hk : plK t off n = 1) :
    Calls Tryz.prog 128 #[.pointer (some ⟨b, 0, none⟩), .int .u64 off, .int .i64 n] w (TellU w b F (.tuple #[.int .u64 (rdX t 1), .bool true]) (rdT t 1)) := by
  have HFIND := Lib.hid (find_at w b F t vi vo h off n ho 1 (by rw [hk]; rfl) (by decide))
  obtain ⟨c4, c5, c6, c7, c8, c9, c10, c11, c12, c13⟩ := h.pregs
  obtain ⟨x0, x1⟩ := rdX_bd h.ok h.ri.byt 1
  have H := Lib.hid h
  change Calls _ _ _ _ (TellU w b F (.tuple #[.int .u64 t.ier, .bool true]) t)
  change 0 ≤ t.ier at x0
  change t.ier < 256 at x1
  generalize t.ier = X at *
  clear h hk ho
  go_enter Tryz.func128, Tryz.ntmps128
  go_wp2_with (first
    | (go_at_call 150; refine (HFIND.out).mono ?_; rintro e w' ⟨rfl, rfl⟩))
  go_ret2
  exact ⟨rfl, EndU.refl H.out⟩

set_option maxRecDepth 100000 in
set_option maxHeartbeats 4000000 in
theorem read_2 (w : World) (b : Nat) (F : Nat → Prop) (t : US) (vi vo : Value) (h : HP w b F t vi vo) (off n : Int) (ho : In64 off) (hk : plK t off n = 2) :
    Calls Tryz.prog 128 #[.pointer (some ⟨b, 0, none⟩), .int .u64 off, .int .i64 n] w (TellU w b F (.tuple #[.int .u64 (rdX t 2), .bool true]) (rdT t 2)) := by
  have HFIND := Lib.hid (find_at w b F t vi vo h off n ho 2 (by rw [hk]; rfl) (by decide))
  obtain ⟨c4, c5, c6, c7, c8, c9, c10, c11, c12, c13⟩ := h.pregs
  obtain ⟨x0, x1⟩ := rdX_bd h.ok h.ri.byt 2
  have H := Lib.hid h
  have HN : Hid (Calls Tryz.prog 152 #[.pointer (some ⟨b, 0, none⟩)] w fun e w' => e = .returned (.int .u8 (rdX t 2)) ∧ EndU cellsP 131 w b F (rdT t 2) w') := Lib.hid (tellReason_any w b F t vi vo h)
  generalize rdX t 2 = X at *
  generalize rdT t 2 = T at *
  clear h hk ho
  go_enter Tryz.func128, Tryz.ntmps128
  go_wp2_with (first
    | (go_at_call 150; refine (HFIND.out).mono ?_; rintro e w' ⟨rfl, rfl⟩)
    | (go_at_call 152; refine (HN.out).mono ?_; rintro e w' ⟨rfl, hE⟩; have HE := Lib.hid hE; clear hE))
  go_ret2
  exact ⟨rfl, HE.out⟩

set_option maxRecDepth 100000 in
set_option maxHeartbeats 4000000 in
theorem read_3 (w : World) (b : Nat) (F : Nat → Prop) (t : US) (vi vo : Value) (h : HP w b F t vi vo) (off n : Int) (ho : In64 off) (hk : plK t off n = 3) :
    Calls Tryz.prog 128 #[.pointer (some ⟨b, 0, none⟩), .int .u64 off, .int .i64 n] w (TellU w b F (.tuple #[.int .u64 (rdX t 3), .bool true]) (rdT t 3)) := by
  have HFIND := Lib.hid (find_at w b F t vi vo h off n ho 3 (by rw [hk]; rfl) (by decide))
  obtain ⟨c4, c5, c6, c7, c8, c9, c10, c11, c12, c13⟩ := h.pregs
  obtain ⟨x0, x1⟩ := rdX_bd h.ok h.ri.byt 3
  have H := Lib.hid h
  change Calls _ _ _ _ (TellU w b F (.tuple #[.int .u64 t.lcr, .bool true]) t)
  change 0 ≤ t.lcr at x0
  change t.lcr < 256 at x1
  generalize t.lcr = X at *
  clear h hk ho
  go_enter Tryz.func128, Tryz.ntmps128
  go_wp2_with (first
    | (go_at_call 150; refine (HFIND.out).mono ?_; rintro e w' ⟨rfl, rfl⟩))
  go_ret2
  exact ⟨rfl, EndU.refl H.out⟩

set_option maxRecDepth 100000 in
set_option maxHeartbeats 4000000 in
theorem read_4 (w : World) (b : Nat) (F : Nat → Prop) (t : US) (vi vo : Value) (h : HP w b F t vi vo) (off n : Int) (ho : In64 off) (hk : plK t off n = 4) :
    Calls Tryz.prog 128 #[.pointer (some ⟨b, 0, none⟩), .int .u64 off, .int .i64 n] w (TellU w b F (.tuple #[.int .u64 (rdX t 4), .bool true]) (rdT t 4)) := by
  have HFIND := Lib.hid (find_at w b F t vi vo h off n ho 4 (by rw [hk]; rfl) (by decide))
  obtain ⟨c4, c5, c6, c7, c8, c9, c10, c11, c12, c13⟩ := h.pregs
  obtain ⟨x0, x1⟩ := rdX_bd h.ok h.ri.byt 4
  have H := Lib.hid h
  change Calls _ _ _ _ (TellU w b F (.tuple #[.int .u64 t.mcr, .bool true]) t)
  change 0 ≤ t.mcr at x0
  change t.mcr < 256 at x1
  generalize t.mcr = X at *
  clear h hk ho
  go_enter Tryz.func128, Tryz.ntmps128
  go_wp2_with (first
    | (go_at_call 150; refine (HFIND.out).mono ?_; rintro e w' ⟨rfl, rfl⟩))
  go_ret2
  exact ⟨rfl, EndU.refl H.out⟩

set_option maxRecDepth 100000 in
set_option maxHeartbeats 4000000 in
theorem read_5 (w : World) (b : Nat) (F : Nat → Prop) (t : US) (vi vo : Value) (h : HP w b F t vi vo) (off n : Int) (ho : In64 off) (hk : plK t off n = 5) :
    Calls Tryz.prog 128 #[.pointer (some ⟨b, 0, none⟩), .int .u64 off, .int .i64 n] w (TellU w b F (.tuple #[.int .u64 (rdX t 5), .bool true]) (rdT t 5)) := by
  have HFIND := Lib.hid (find_at w b F t vi vo h off n ho 5 (by rw [hk]; rfl) (by decide))
  obtain ⟨c4, c5, c6, c7, c8, c9, c10, c11, c12, c13⟩ := h.pregs
  obtain ⟨x0, x1⟩ := rdX_bd h.ok h.ri.byt 5
  have H := Lib.hid h
  have HN : Hid (Calls Tryz.prog 153 #[.pointer (some ⟨b, 0, none⟩)] w fun e w' => e = .returned (.int .u8 (rdX t 5)) ∧ EndU cellsP 131 w b F (rdT t 5) w') := Lib.hid (tellStatus_any w b F t vi vo h)
  generalize rdX t 5 = X at *
  generalize rdT t 5 = T at *
  clear h hk ho
  go_enter Tryz.func128, Tryz.ntmps128
  go_wp2_with (first
    | (go_at_call 150; refine (HFIND.out).mono ?_; rintro e w' ⟨rfl, rfl⟩)
    | (go_at_call 153; refine (HN.out).mono ?_; rintro e w' ⟨rfl, hE⟩; have HE := Lib.hid hE; clear hE))
  go_ret2
  exact ⟨rfl, HE.out⟩

set_option maxRecDepth 100000 in
set_option maxHeartbeats 4000000 in
theorem read_6 (w : World) (b : Nat) (F : Nat → Prop) (t : US) (vi vo : Value) (h : HP w b F t vi vo) (off n : Int) (ho : In64 off) (hk : plK t off n = 6) :
    Calls Tryz.prog 128 #[.pointer (some ⟨b, 0, none⟩), .int .u64 off, .int .i64 n] w (TellU w b F (.tuple #[.int .u64 (rdX t 6), .bool true]) (rdT t 6)) := by
  have HFIND := Lib.hid (find_at w b F t vi vo h off n ho 6 (by rw [hk]; rfl) (by decide))
  obtain ⟨c4, c5, c6, c7, c8, c9, c10, c11, c12, c13⟩ := h.pregs
  obtain ⟨x0, x1⟩ := rdX_bd h.ok h.ri.byt 6
  have H := Lib.hid h
  change Calls _ _ _ _ (TellU w b F (.tuple #[.int .u64 176, .bool true]) t)
  clear h hk ho
  go_enter Tryz.func128, Tryz.ntmps128
  go_wp2_with (first
    | (go_at_call 150; refine (HFIND.out).mono ?_; rintro e w' ⟨rfl, rfl⟩))
  go_ret2
  exact ⟨rfl, EndU.refl H.out⟩

set_option maxRecDepth 100000 in
set_option maxHeartbeats 4000000 in
theorem read_7 (w : World) (b : Nat) (F : Nat → Prop) (t : US) (vi vo : Value) (h : HP w b F t vi vo) (off n : Int) (ho : In64 off) (hk : plK t off n = 7) :
    Calls Tryz.prog 128 #[.pointer (some ⟨b, 0, none⟩), .int .u64 off, .int .i64 n] w (TellU w b F (.tuple #[.int .u64 (rdX t 7), .bool true]) (rdT t 7)) := by
  have HFIND := Lib.hid (find_at w b F t vi vo h off n ho 7 (by rw [hk]; rfl) (by decide))
  obtain ⟨c4, c5, c6, c7, c8, c9, c10, c11, c12, c13⟩ := h.pregs
  obtain ⟨x0, x1⟩ := rdX_bd h.ok h.ri.byt 7
  have H := Lib.hid h
  change Calls _ _ _ _ (TellU w b F (.tuple #[.int .u64 t.scr, .bool true]) t)
  change 0 ≤ t.scr at x0
  change t.scr < 256 at x1
  generalize t.scr = X at *
  clear h hk ho
  go_enter Tryz.func128, Tryz.ntmps128
  go_wp2_with (first
    | (go_at_call 150; refine (HFIND.out).mono ?_; rintro e w' ⟨rfl, rfl⟩))
  go_ret2
  exact ⟨rfl, EndU.refl H.out⟩

set_option maxRecDepth 100000 in
set_option maxHeartbeats 4000000 in
theorem read_8 (w : World) (b : Nat) (F : Nat → Prop) (t : US) (vi vo : Value) (h : HP w b F t vi vo) (off n : Int) (ho : In64 off) (hk : plK t off n = 8) :
    Calls Tryz.prog 128 #[.pointer (some ⟨b, 0, none⟩), .int .u64 off, .int .i64 n] w (TellU w b F (.tuple #[.int .u64 (rdX t 8), .bool true]) (rdT t 8)) := by
  have HFIND := Lib.hid (find_at w b F t vi vo h off n ho 8 (by rw [hk]; rfl) (by decide))
  obtain ⟨c4, c5, c6, c7, c8, c9, c10, c11, c12, c13⟩ := h.pregs
  obtain ⟨x0, x1⟩ := rdX_bd h.ok h.ri.byt 8
  have H := Lib.hid h
  change Calls _ _ _ _ (TellU w b F (.tuple #[.int .u64 t.dl, .bool true]) t)
  change 0 ≤ t.dl at x0
  change t.dl < 256 at x1
  generalize t.dl = X at *
  clear h hk ho
  go_enter Tryz.func128, Tryz.ntmps128
  go_wp2_with (first
    | (go_at_call 150; refine (HFIND.out).mono ?_; rintro e w' ⟨rfl, rfl⟩))
  go_ret2
  exact ⟨rfl, EndU.refl H.out⟩

set_option maxRecDepth 100000 in
set_option maxHeartbeats 4000000 in
theorem read_9 (w : World) (b : Nat) (F : Nat → Prop) (t : US) (vi vo : Value) (h : HP w b F t vi vo) (off n : Int) (ho : In64 off) (hk : plK t off n = 9) :
    Calls Tryz.prog 128 #[.pointer (some ⟨b, 0, none⟩), .int .u64 off, .int .i64 n] w (TellU w b F (.tuple #[.int .u64 (rdX t 9), .bool true]) (rdT t 9)) := by
  have HFIND := Lib.hid (find_at w b F t vi vo h off n ho 9 (by rw [hk]; rfl) (by decide))
  obtain ⟨c4, c5, c6, c7, c8, c9, c10, c11, c12, c13⟩ := h.pregs
  obtain ⟨x0, x1⟩ := rdX_bd h.ok h.ri.byt 9
  have H := Lib.hid h
  change Calls _ _ _ _ (TellU w b F (.tuple #[.int .u64 t.dm, .bool true]) t)
  change 0 ≤ t.dm at x0
  change t.dm < 256 at x1
  generalize t.dm = X at *
  clear h hk ho
  go_enter Tryz.func128, Tryz.ntmps128
  go_wp2_with (first
    | (go_at_call 150; refine (HFIND.out).mono ?_; rintro e w' ⟨rfl, rfl⟩))
  go_ret2
  exact ⟨rfl, EndU.refl H.out⟩

theorem read_out (w : World) (b : Nat) (F : Nat → Prop) (t : US) (vi vo : Value) (h : HP w b F t vi vo) (off n : Int) (ho : In64 off) (hk : plK t off n = 10) :
    Calls Tryz.prog 128 #[.pointer (some ⟨b, 0, none⟩), .int .u64 off, .int .i64 n] w (TellU w b F (.tuple #[.int .u64 0, .bool false]) t) := by
  have HFIND := Lib.hid (find_out w b F t vi vo h off n ho hk)
  have H := Lib.hid h
  clear h hk ho
  go_enter Tryz.func128, Tryz.ntmps128
  go_wp2_with (go_at_call 150; refine (HFIND.out).mono ?_; rintro e w' ⟨rfl, rfl⟩)
  go_ret2
  exact ⟨rfl, EndU.refl H.out⟩
theorem write_out (w : World) (b : Nat) (F : Nat → Prop) (t : US) (vi vo : Value) (h : HP w b F t vi vo) (off n v : Int) (ho : In64 off) (hk : plK t off n = 10) :
    Calls Tryz.prog 129 #[.pointer (some ⟨b, 0, none⟩), .int .u64 off, .int .i64 n, .int .u64 v] w (TellU w b F (.bool false) t) := by
  have HFIND := Lib.hid (find_out w b F t vi vo h off n ho hk)
  have H := Lib.hid h
  clear h hk ho
  go_enter Tryz.func129, Tryz.ntmps129
  go_wp2_with (go_at_call 150; refine (HFIND.out).mono ?_; rintro e w' ⟨rfl, rfl⟩)
  go_ret
  exact ⟨rfl, EndU.refl H.out⟩
theorem plK_le (t : US) (off n : Int) : plK t off n ≤ 10 := by
  unfold plK
  split
  · split <;> omega
  · omega
theorem ten {k : Nat} (h : k ≤ 10) : k = 0 ∨ k = 1 ∨ k = 2 ∨ k = 3 ∨ k = 4 ∨ k = 5 ∨ k = 6 ∨ k = 7 ∨ k = 8 ∨ k = 9 ∨ k = 10 := by omega
theorem read_any (w : World) (b : Nat) (F : Nat → Prop) (t : US) (h : UP w b F t) (off n : Int) (ho : In64 off) :
    Calls Tryz.prog 128 #[.pointer (some ⟨b, 0, none⟩), .int .u64 off, .int .i64 n] w (TellU w b F (.tuple #[.int .u64 (rdX t (plK t off n)), .bool (okK (plK t off n))]) (rdT t (plK t off n))) := by
  obtain ⟨vi, vo, h⟩ := h
  rcases ten (plK_le t off n) with hk | hk | hk | hk | hk | hk | hk | hk | hk | hk | hk
  · rw [hk]; exact read_0 w b F t vi vo h off n ho hk
  · rw [hk]; exact read_1 w b F t vi vo h off n ho hk
  · rw [hk]; exact read_2 w b F t vi vo h off n ho hk
  · rw [hk]; exact read_3 w b F t vi vo h off n ho hk
  · rw [hk]; exact read_4 w b F t vi vo h off n ho hk
  · rw [hk]; exact read_5 w b F t vi vo h off n ho hk
  · rw [hk]; exact read_6 w b F t vi vo h off n ho hk
  · rw [hk]; exact read_7 w b F t vi vo h off n ho hk
  · rw [hk]; exact read_8 w b F t vi vo h off n ho hk
  · rw [hk]; exact read_9 w b F t vi vo h off n ho hk
  · rw [hk]; exact read_out w b F t vi vo h off n ho hk
theorem write_any (w : World) (b : Nat) (F : Nat → Prop) (t : US) (h : UP w b F t) (htb : Tab w) (hnt : ¬ F 1) (off n v : Int) (ho : In64 off) (hv : In64 v) :
    Calls Tryz.prog 129 #[.pointer (some ⟨b, 0, none⟩), .int .u64 off, .int .i64 n, .int .u64 v] w (TellU w b F (.bool (okK (plK t off n))) (wrT t (v % 256) (plK t off n))) := by
  obtain ⟨vi, vo, h⟩ := h
  rcases ten (plK_le t off n) with hk | hk | hk | hk | hk | hk | hk | hk | hk | hk | hk
  · rw [hk]; exact write_0 w b F t vi vo h htb hnt off n v ho hv hk
  · rw [hk]; exact write_1 w b F t vi vo h htb hnt off n v ho hv hk
  · rw [hk]; exact write_2 w b F t vi vo h htb hnt off n v ho hv hk
  · rw [hk]; exact write_3 w b F t vi vo h htb hnt off n v ho hv hk
  · rw [hk]; exact write_4 w b F t vi vo h htb hnt off n v ho hv hk
  · rw [hk]; exact write_5 w b F t vi vo h htb hnt off n v ho hv hk
  · rw [hk]; exact write_6 w b F t vi vo h htb hnt off n v ho hv hk
  · rw [hk]; exact write_7 w b F t vi vo h htb hnt off n v ho hv hk
  · rw [hk]; exact write_8 w b F t vi vo h htb hnt off n v ho hv hk
  · rw [hk]; exact write_9 w b F t vi vo h htb hnt off n v ho hv hk
  · rw [hk]; exact write_out w b F t vi vo h off n v ho hk

end Go.Proofs.YtbcnkhfpogglmaaGreatDoor.U6

namespace Go.Proofs.YtbcnkhfpogglmaaGreatDoor.U6
open Go.RowKit
set_option linter.unusedVariables false
set_option maxRecDepth 100000

/-- What a copy of a row is. -/
def CloneE (w : World) (xs : List Int) (e : Ending) (w' : World) : Prop := ∃ a c, e = .returned (.slice a xs.length c) ∧ Below w.heap.size w w' ∧ RowB w' (.slice a xs.length c) xs ∧ w'.ownsRow w.heap.size 5 1 (.slice a xs.length c) xs.length (u8s xs)
set_option maxHeartbeats 1000000 in
theorem clone_any (w : World) (v : Value) (xs : List Int) (h : RowB w v xs) (hl : xs.length ≤ 70000) : Calls Tryz.prog 92 #[v] w (CloneE w xs) := by
  have H := Lib.hid h
  obtain ⟨a, c, rfl, hnc, hcm, hr⟩ := h.reads hl
  have HL := Lib.hid hl
  rcases hr with ⟨rfl, rfl, rfl⟩ | ⟨g, off, rfl, hg, hc⟩
  · clear h hl
    have hq := Lib.run_eql_slice_nil (P := Tryz.prog) w 40 5 none 0 0 0 0 Tryz.underlying40
    simp only [Option.isNone_none] at hq
    go_enter Tryz.func92, Tryz.ntmps92
    go_wp2
    go_ret
    exact ⟨none, 0, rfl, Below.refl _ _, RowB.nil w, World.ownsRow_nil _ _ _ _⟩
  · have h2 := h.below (below_alloc w (.cells #[] 5))
    obtain ⟨v', w', hrun, hO, hR, hOn, hv⟩ := run_pour (w.alloc (.cells #[] 5)) _ xs h2 hl (by simp) w.heap.size (.slice (some ⟨w.heap.size, 0, none⟩) 0 0) (World.ownsRow_made w #[] 0 (Nat.le_refl _) (Nat.zero_le _) rfl) (by rw [World.size_alloc]; omega) 40
    obtain ⟨a2, c2, hv2, _, _, _⟩ := hR.reads hl
    subst hv2
    have hB : Below w.heap.size w w' := (below_alloc w (.cells #[] 5)).trans (hOn.below (fun k hk => by simp [Value.ownBlock] at hk; omega) (by rw [World.size_alloc]; omega))
    have HRUN := Lib.hid hrun
    have HE : Hid (CloneE w xs (.returned (.slice a2 xs.length c2)) w') := Lib.hid ⟨a2, c2, rfl, hB, hR, hO⟩
    clear h h2 hrun hO hR hOn hv hB hc hl hnc hcm
    generalize xs.length = n at *
    have hq := Lib.run_eql_slice_nil (P := Tryz.prog) w 40 5 (some ⟨g, off, none⟩) n c 0 0 Tryz.underlying40
    simp only [Option.isNone_some] at hq
    go_enter Tryz.func92, Tryz.ntmps92
    go_wp2_with ((at_builtin; refine wpList_append_run rfl _ _ _ rfl (.slice (some ⟨w.heap.size, 0, none⟩) 0 0) (.slice (some ⟨g, off, none⟩) n c) (.slice a2 n c2) w' rfl rfl HRUN.out ?_))
    go_ret
    exact HE.out

/-- What Out answers. -/
theorem out_any (w : World) (b : Nat) (F : Nat → Prop) (t : US) (h : UP w b F t) : Calls Tryz.prog 46 #[.pointer (some ⟨b, 0, none⟩)] w (CloneE w t.out) := by
  obtain ⟨vi, vo, h⟩ := h
  have hlo := h.ok.lo
  have HC := Lib.hid (clone_any w vo t.out h.ro (by omega))
  obtain ⟨_, c1, _, _⟩ := h.pcells
  obtain ⟨a, c, rfl, _, _, _⟩ := h.ro.reads (by omega)
  clear h hlo
  go_enter Tryz.func46, Tryz.ntmps46
  go_wp2_with (go_at_call 92; refine (HC.out).mono ?_; rintro e w' ⟨a2, c2, rfl, hE⟩; have HE := Lib.hid hE; clear hE)
  go_ret
  exact ⟨_, _, rfl, HE.out⟩
/-- A new object that holds t. -/
def MadeU (mk : Value → Value → US → Array Value) (ty : TypeId) (w : World) (t : US) (e : Ending) (w' : World) : Prop :=
  ∃ b F vi vo, e = .returned (.pointer (some ⟨b, 0, none⟩)) ∧ Below w.heap.size w w' ∧ (∀ i, F i → w.heap.size ≤ i) ∧ Holds mk ty w' b F t vi vo
theorem made_of (mk : Value → Value → US → Array Value) (ty : TypeId) (w : World) : Holds mk ty (w.alloc (.cells (mk (.slice none 0 0) (.slice none 0 0) u0) ty)) w.heap.size (fun i => i = w.heap.size) u0 (.slice none 0 0) (.slice none 0 0) :=
  ⟨heap_alloc_new w _, RowB.nil _, RowB.nil _, rfl, fun g hg => by simp [Value.ownBlock] at hg, fun g hg => by simp [Value.ownBlock] at hg, fun g hg => by simp [Value.ownBlock] at hg, fun i hi => by rw [World.size_alloc]; omega, u0_ok⟩
theorem new_any (w : World) : Calls Tryz.prog 32 #[] w (MadeU cellsP 131 w u0) := by
  have HM := Lib.hid (made_of cellsP 131 w)
  go_enter Tryz.func32, Tryz.ntmps32
  go_wp2
  go_ret
  exact ⟨_, _, _, _, rfl, below_alloc w _, fun i hi => by omega, HM.out⟩

end Go.Proofs.YtbcnkhfpogglmaaGreatDoor.U6

namespace Go.Proofs.YtbcnkhfpogglmaaGreatDoor.U6
open Go.RowKit
set_option linter.unusedVariables false
set_option maxRecDepth 100000

theorem twin_made (mk : Value → Value → US → Array Value) (ty : TypeId) {w w3 w4 : World} {t : US} {v1 v2 : Value} (h3 : w.heap.size ≤ w3.heap.size) (hB : Below w.heap.size w w4) (r1 : RowB w3 v1 t.inn) (o1 : ∀ g, v1.ownBlock = some g → w.heap.size ≤ g) (h34 : Below w3.heap.size w3 w4)
    (r2 : RowB w4 v2 t.out) (o2 : ∀ g, v2.ownBlock = some g → w3.heap.size ≤ g) (ok : t.ok) : MadeU mk ty w t (.returned (.pointer (some ⟨w4.heap.size, 0, none⟩))) (w4.alloc (.cells (mk v1 v2 t) ty)) := by
  have r1' := r1.below h34
  have s34 := h34.size
  refine ⟨w4.heap.size, fun i => i = w4.heap.size ∨ v1.ownBlock = some i ∨ v2.ownBlock = some i, v1, v2, rfl, hB.alloc hB.size _, ?_, ⟨heap_alloc_new w4 _, r1'.below (below_alloc w4 _), r2.below (below_alloc w4 _), .inl rfl, ?_, ?_, ?_, ?_, ok⟩⟩
  · rintro i (rfl | hi | hi)
    · exact hB.size
    · exact o1 i hi
    · exact Nat.le_trans h3 (o2 i hi)
  · intro g hg
    have := r1'.lt g hg
    exact ⟨.inr (.inl hg), by omega⟩
  · intro g hg
    have := r2.lt g hg
    exact ⟨.inr (.inr hg), by omega⟩
  · intro g hg e
    have := r1.lt g hg
    have := o2 g e
    omega
  · rw [World.size_alloc]
    rintro i (rfl | hi | hi)
    · omega
    · have := r1'.lt i hi; omega
    · have := r2.lt i hi; omega

set_option maxRecDepth 100000 in
set_option maxHeartbeats 8000000 in
theorem twin_any (w : World) (b : Nat) (F : Nat → Prop) (t : US) (h : UP w b F t) : Calls Tryz.prog 48 #[.pointer (some ⟨b, 0, none⟩)] w (MadeU cellsP 131 w t) := by
  obtain ⟨vi, vo, h⟩ := h
  have hli := h.ok.li
  have hlo := h.ok.lo
  have H := Lib.hid h
  have HC1 : Hid (∀ wx, Below w.heap.size w wx → Calls Tryz.prog 92 #[vi] wx (CloneE wx t.inn)) := Lib.hid fun wx hx => clone_any wx vi t.inn (h.below hx).ri (by omega)
  have HC2 : Hid (∀ wx, Below w.heap.size w wx → Calls Tryz.prog 92 #[vo] wx (CloneE wx t.out)) := Lib.hid fun wx hx => clone_any wx vo t.out (h.below hx).ro (by omega)
  obtain ⟨ai, ci, hvi, _, _, _⟩ := h.ri.reads (by omega)
  obtain ⟨ao, co, hvo, _, _, _⟩ := h.ro.reads (by omega)
  subst hvi hvo
  have OK := Lib.hid h.ok
  clear h hli hlo
  go_enter Tryz.func48, Tryz.ntmps48
  go_wp2_with fail
  refine wp_region_held_drew (S := fun wx => Below w.heap.size w wx) (by kernel_rfl) ((Below.refl _ _).drew) (fun hHeld0 => ?_)
  have HS := Lib.hid hHeld0
  clear hHeld0
  refine takeD (i := 0) (some 5) (v := ?_) rfl rfl (by kernel_rfl) (by kernel_rfl) (by kernel_rfl) (fun _ _ _ h => h) (by rfl) HS.out ?_ ?_
  rotate_left
  · intro wx hSx
    clear hSx
    go_simp
    try (with_reducible rfl)
  simp only [Act.put, List.setIfInBounds_toArray, List.set_cons_zero, List.set_cons_succ]
  refine takeD (i := 1) (some 6) (v := ?_) rfl rfl (by kernel_rfl) (by kernel_rfl) (by kernel_rfl) (fun _ _ _ h => h) (by rfl) HS.out ?_ ?_
  rotate_left
  · intro wx hSx
    clear hSx
    go_simp
    try (with_reducible rfl)
  simp only [Act.put, List.setIfInBounds_toArray, List.set_cons_zero, List.set_cons_succ]
  refine takeD (i := 2) (some 7) (v := ?_) rfl rfl (by kernel_rfl) (by kernel_rfl) (by kernel_rfl) (fun _ _ _ h => h) (by rfl) HS.out ?_ ?_
  rotate_left
  · intro wx hSx
    clear hSx
    go_simp
    try (with_reducible rfl)
  simp only [Act.put, List.setIfInBounds_toArray, List.set_cons_zero, List.set_cons_succ]
  refine takeD (i := 3) (some 8) (v := ?_) rfl rfl (by kernel_rfl) (by kernel_rfl) (by kernel_rfl) (fun _ _ _ h => h) (by rfl) HS.out ?_ ?_
  rotate_left
  · intro wx hSx
    have kx := H.out.below hSx
    obtain ⟨c0, c1, c2, c3⟩ := kx.pcells
    obtain ⟨c4, c5, c6, c7, c8, c9, c10, c11, c12, c13⟩ := kx.pregs
    clear kx
    clear hSx
    go_simp
    try (with_reducible rfl)
  simp only [Act.put, List.setIfInBounds_toArray, List.set_cons_zero, List.set_cons_succ]
  refine takeD (i := 5) (some 10) (v := ?_) rfl rfl (by kernel_rfl) (by kernel_rfl) (by kernel_rfl) (fun _ _ _ h => h) (by rfl) HS.out ?_ ?_
  rotate_left
  · intro wx hSx
    clear hSx
    go_simp
    try (with_reducible rfl)
  simp only [Act.put, List.setIfInBounds_toArray, List.set_cons_zero, List.set_cons_succ]
  refine takeD (i := 6) (some 11) (v := ?_) rfl rfl (by kernel_rfl) (by kernel_rfl) (by kernel_rfl) (fun _ _ _ h => h) (by rfl) HS.out ?_ ?_
  rotate_left
  · intro wx hSx
    clear hSx
    go_simp
    try (with_reducible rfl)
  simp only [Act.put, List.setIfInBounds_toArray, List.set_cons_zero, List.set_cons_succ]
  refine takeD (i := 7) (some 12) (v := ?_) rfl rfl (by kernel_rfl) (by kernel_rfl) (by kernel_rfl) (fun _ _ _ h => h) (by rfl) HS.out ?_ ?_
  rotate_left
  · intro wx hSx
    clear hSx
    go_simp
    try (with_reducible rfl)
  simp only [Act.put, List.setIfInBounds_toArray, List.set_cons_zero, List.set_cons_succ]
  refine takeD (i := 8) (some 13) (v := ?_) rfl rfl (by kernel_rfl) (by kernel_rfl) (by kernel_rfl) (fun _ _ _ h => h) (by rfl) HS.out ?_ ?_
  rotate_left
  · intro wx hSx
    have kx := H.out.below hSx
    obtain ⟨c0, c1, c2, c3⟩ := kx.pcells
    obtain ⟨c4, c5, c6, c7, c8, c9, c10, c11, c12, c13⟩ := kx.pregs
    clear kx
    clear hSx
    go_simp
    try (with_reducible rfl)
  simp only [Act.put, List.setIfInBounds_toArray, List.set_cons_zero, List.set_cons_succ]
  refine takeD (i := 10) (some 15) (v := ?_) rfl rfl (by kernel_rfl) (by kernel_rfl) (by kernel_rfl) (fun _ _ _ h => h) (by rfl) HS.out ?_ ?_
  rotate_left
  · intro wx hSx
    clear hSx
    go_simp
    try (with_reducible rfl)
  simp only [Act.put, List.setIfInBounds_toArray, List.set_cons_zero, List.set_cons_succ]
  refine takeD (i := 11) (some 16) (v := ?_) rfl rfl (by kernel_rfl) (by kernel_rfl) (by kernel_rfl) (fun _ _ _ h => h) (by rfl) HS.out ?_ ?_
  rotate_left
  · intro wx hSx
    clear hSx
    go_simp
    try (with_reducible rfl)
  simp only [Act.put, List.setIfInBounds_toArray, List.set_cons_zero, List.set_cons_succ]
  refine takeD (i := 12) (some 17) (v := ?_) rfl rfl (by kernel_rfl) (by kernel_rfl) (by kernel_rfl) (fun _ _ _ h => h) (by rfl) HS.out ?_ ?_
  rotate_left
  · intro wx hSx
    clear hSx
    go_simp
    try (with_reducible rfl)
  simp only [Act.put, List.setIfInBounds_toArray, List.set_cons_zero, List.set_cons_succ]
  refine takeD (i := 13) (some 18) (v := ?_) rfl rfl (by kernel_rfl) (by kernel_rfl) (by kernel_rfl) (fun _ _ _ h => h) (by rfl) HS.out ?_ ?_
  rotate_left
  · intro wx hSx
    have kx := H.out.below hSx
    obtain ⟨c0, c1, c2, c3⟩ := kx.pcells
    obtain ⟨c4, c5, c6, c7, c8, c9, c10, c11, c12, c13⟩ := kx.pregs
    clear kx
    clear hSx
    go_simp
    try (with_reducible rfl)
  simp only [Act.put, List.setIfInBounds_toArray, List.set_cons_zero, List.set_cons_succ]
  refine takeD (i := 14) (some 19) (v := ?_) rfl rfl (by kernel_rfl) (by kernel_rfl) (by kernel_rfl) (fun _ _ _ h => h) (by rfl) HS.out ?_ ?_
  rotate_left
  · intro wx hSx
    clear hSx
    go_simp
    try (with_reducible rfl)
  simp only [Act.put, List.setIfInBounds_toArray, List.set_cons_zero, List.set_cons_succ]
  refine takeD (i := 15) (some 20) (v := ?_) rfl rfl (by kernel_rfl) (by kernel_rfl) (by kernel_rfl) (fun _ _ _ h => h) (by rfl) HS.out ?_ ?_
  rotate_left
  · intro wx hSx
    clear hSx
    go_simp
    try (with_reducible rfl)
  simp only [Act.put, List.setIfInBounds_toArray, List.set_cons_zero, List.set_cons_succ]
  refine takeD (i := 16) (some 21) (v := ?_) rfl rfl (by kernel_rfl) (by kernel_rfl) (by kernel_rfl) (fun _ _ _ h => h) (by rfl) HS.out ?_ ?_
  rotate_left
  · intro wx hSx
    clear hSx
    go_simp
    try (with_reducible rfl)
  simp only [Act.put, List.setIfInBounds_toArray, List.set_cons_zero, List.set_cons_succ]
  refine takeD (i := 17) (some 22) (v := ?_) rfl rfl (by kernel_rfl) (by kernel_rfl) (by kernel_rfl) (fun _ _ _ h => h) (by rfl) HS.out ?_ ?_
  rotate_left
  · intro wx hSx
    have kx := H.out.below hSx
    obtain ⟨c0, c1, c2, c3⟩ := kx.pcells
    obtain ⟨c4, c5, c6, c7, c8, c9, c10, c11, c12, c13⟩ := kx.pregs
    clear kx
    clear hSx
    go_simp
    try (with_reducible rfl)
  simp only [Act.put, List.setIfInBounds_toArray, List.set_cons_zero, List.set_cons_succ]
  refine wpAnyH_ready (rs := [4]) (by kernel_rfl) (by simp) ?_
  refine AllReadyH.cons rfl (fun K hK => ?_) AllReadyH.nil
  go_simp
  (with_reducible refine (HC1.out _ HS.out).mono ?_)
  rintro e w3 ⟨a1, k1, rfl, hb1, hr1, ho1⟩
  have HS3 : Hid (Below w.heap.size w w3) := Lib.hid (HS.out.trans (hb1.mono HS.out.size))
  have HR1 := Lib.hid hr1
  have HO1 : Hid (∀ g, (Value.slice a1 t.inn.length k1).ownBlock = some g → w.heap.size ≤ g) := Lib.hid fun g hg => Nat.le_trans HS.out.size (ho1.lt g hg).1
  clear hb1 hr1 ho1
  go_simp
  refine hK.out _ _ ?_ (fun hHeld => ?_)
  · exact HS3.out
  clear hHeld hK K
  try simp only [Act.put, List.setIfInBounds_toArray, List.set_cons_zero, List.set_cons_succ]
  replace HS := HS3
  refine wpAnyH_ready (rs := [9]) (by kernel_rfl) (by simp) ?_
  refine AllReadyH.cons rfl (fun K hK => ?_) AllReadyH.nil
  go_simp
  (with_reducible refine (HC2.out _ HS.out).mono ?_)
  rintro e w4 ⟨a2, k2, rfl, hb2, hr2, ho2⟩
  have HS4 : Hid (Below w.heap.size w w4) := Lib.hid (HS.out.trans (hb2.mono HS.out.size))
  have HR2 := Lib.hid hr2
  have HO2 : Hid (∀ g, (Value.slice a2 t.out.length k2).ownBlock = some g → w3.heap.size ≤ g) := Lib.hid fun g hg => (ho2.lt g hg).1
  have HB34 := Lib.hid hb2
  clear hb2 hr2 ho2
  go_simp
  refine hK.out _ _ ?_ (fun hHeld => ?_)
  · exact HS4.out
  clear hHeld hK K
  try simp only [Act.put, List.setIfInBounds_toArray, List.set_cons_zero, List.set_cons_succ]
  replace HS := HS4
  refine takeD (i := 18) (some 23) (v := ?_) rfl rfl (by kernel_rfl) (by kernel_rfl) (by kernel_rfl) (fun _ _ _ h => h) (by rfl) HS.out ?_ ?_
  rotate_left
  · intro wx hSx
    clear hSx
    go_simp
    try (with_reducible rfl)
  simp only [Act.put, List.setIfInBounds_toArray, List.set_cons_zero, List.set_cons_succ]
  refine wpAnyH_ready (rs := [19]) (by kernel_rfl) (by simp) ?_
  refine AllReadyH.cons rfl (fun K hK => ?_) AllReadyH.nil
  go_simp
  refine hK.out _ _ ?_ (fun hHeld => ?_)
  · exact HS.out.alloc HS.out.size _
  replace HS : Hid (Below w.heap.size w _) := Lib.hid hHeld
  clear hHeld hK K
  try simp only [Act.put, List.setIfInBounds_toArray, List.set_cons_zero, List.set_cons_succ]
  refine takeD (i := 20) (some 2) (v := ?_) rfl rfl (by kernel_rfl) (by kernel_rfl) (by kernel_rfl) (fun _ _ _ h => h) (by rfl) HS.out ?_ ?_
  rotate_left
  · intro wx hSx
    clear hSx
    go_simp
    try (with_reducible rfl)
  simp only [Act.put, List.setIfInBounds_toArray, List.set_cons_zero, List.set_cons_succ]
  refine wpAnyH_done (by kernel_rfl) ?_ _
  go_wp2
  go_ret
  exact twin_made cellsP 131 HS3.out.size HS4.out HR1.out HO1.out HB34.out HR2.out HO2.out OK.out

end Go.Proofs.YtbcnkhfpogglmaaGreatDoor.U6

namespace Go.Proofs.YtbcnkhfpogglmaaGreatDoor.U6
open Go.RowKit
set_option linter.unusedVariables false
set_option maxRecDepth 100000

theorem extract_varr (n : Nat) (f : Nat → Value) (a k : Nat) (h : a + k ≤ n) : (varr n f).extract a (a + k) = varr k fun i => f (a + i) := by
  unfold varr
  apply Array.ext'
  simp only [List.extract_toArray]
  apply List.ext_getElem?
  intro i
  simp only [List.extract_eq_take_drop, List.getElem?_take, List.getElem?_drop, List.getElem?_map, List.getElem?_range]
  by_cases hi : i < k
  · rw [if_pos (by omega)]
    rw [List.getElem?_range (by omega), List.getElem?_range hi]; rfl
  · rw [if_neg (by omega), List.getElem?_eq_none (by simp; omega)]; rfl

section
variable {P : Program} (w : World)
theorem run_part_one {e : TypeId} (ha : (isAgg e).run P w = .ok false w) {n : Nat} {f : Nat → Value} {i : Nat} (h : i < n) : (part e (varr n f) i).run P w = .ok (f i) w := by
  simp [part, ha, varr_get n f i h]
theorem run_part_row {e : TypeId} {k : Nat} (ha : (isAgg e).run P w = .ok true w) (hs : (sizeOf e).run P w = .ok k w) {n : Nat} {f : Nat → Value} {i : Nat} (h : i + k ≤ n) : (part e (varr n f) i).run P w = .ok (.agg (varr k fun j => f (i + j))) w := by
  simp [part, ha, hs, extract_varr n f i k h]
/-- '==' of two arrays, where the elements' is known. -/
theorem run_alls {d : Nat} {e : TypeId} {sz : Nat} (xs ys : Array Value) (q : Nat → Bool) (l : List Nat)
    (h : ∀ i ∈ l, ∃ x y, (part e xs (i * sz)).run P w = .ok x w ∧ (part e ys (i * sz)).run P w = .ok y w ∧ (Op.equalIn d e x y).run P w = .ok (q i) w) :
    ((forIn l ((none, ()) : Option Bool × Unit) fun i _ => do
        let x ← part e xs (i * sz)
        let y ← part e ys (i * sz)
        let r ← Op.equalIn d e x y
        if (!r) = true then pure (ForInStep.done (some false, ())) else pure (ForInStep.yield (none, ()))).run P w) =
      .ok (if l.all q = true then (none, ()) else (some false, ())) w := by
  induction l with
  | nil => simp
  | cons i l ih =>
    obtain ⟨x, y, h1, h2, h3⟩ := h i (by simp)
    have ih := ih fun j hj => h j (by simp [hj])
    rw [List.forIn_cons]
    simp only [Sem.run_bind, h1, h2, h3, Result.andThen_ok]
    cases hc : q i
    · simp [hc]
    · simp only [Bool.not_true, Bool.false_eq_true, if_false, Sem.run_pure, Result.andThen_ok, List.all_cons, hc, Bool.true_and]
      exact ih
theorem run_equalIn_arr {d : Nat} {t e : TypeId} {n sz : Nat} (ht : P.underlying t = some (.array n e)) (hs : (sizeOf e).run P w = .ok sz w) (xs ys : Array Value) (q : Nat → Bool)
    (h : ∀ i, i < n → ∃ x y, (part e xs (i * sz)).run P w = .ok x w ∧ (part e ys (i * sz)).run P w = .ok y w ∧ (Op.equalIn d e x y).run P w = .ok (q i) w) :
    (Op.equalIn (d + 1) t (.agg xs) (.agg ys)).run P w = .ok ((List.range n).all q) w := by
  rw [Op.equalIn]
  simp only [Sem.run_bind, run_underlying ht, Result.andThen_ok, hs]
  rw [Std.Legacy.Range.forIn_eq_forIn_range']
  simp only [Std.Legacy.Range.size]
  have e1 : (n - 0 + 1 - 1) / 1 = n := by simp
  rw [e1, ← List.range_eq_range', run_alls w xs ys q (List.range n) fun i hi => h i (List.mem_range.1 hi), Result.andThen_ok]
  cases (List.range n).all q <;> simp
/-- '==' of two structs, field by field. -/
theorem run_fields_nil (d : Nat) (xs ys : Array Value) : (Op.eqFields d xs ys []).run P w = .ok true w := rfl
theorem run_fields_cons {d : Nat} {xs ys : Array Value} {f : Field} {fs : List Field} {x y : Value} {r s : Bool} (hn : f.name ≠ "_") (h1 : (part f.type xs f.offset).run P w = .ok x w) (h2 : (part f.type ys f.offset).run P w = .ok y w)
    (h3 : (Op.equalIn d f.type x y).run P w = .ok r w) (h4 : (Op.eqFields d xs ys fs).run P w = .ok s w) : (Op.eqFields d xs ys (f :: fs)).run P w = .ok (r && s) w := by
  unfold Op.eqFields
  rw [if_pos hn]
  simp only [Sem.run_bind, h1, h2, h3, Result.andThen_ok]
  cases r
  · simp
  · simp [h4]
end

end Go.Proofs.YtbcnkhfpogglmaaGreatDoor.U6

namespace Go.Proofs.YtbcnkhfpogglmaaGreatDoor.U6
open Go.RowKit
set_option linter.unusedVariables false
set_option maxRecDepth 100000

theorem conv_row {w : World} {v : Value} {xs : List Int} (h : RowB w v xs) (hl : xs.length ≤ 70000) : (convert 40 9 v).run Tryz.prog w = .ok (.string (strOfNums xs)) w := by
  obtain ⟨a, c, rfl, _, _, h⟩ := h.reads hl
  rcases h with ⟨rfl, rfl, rfl⟩ | ⟨g, off, rfl, hlt, hc⟩
  · rw [run_convert_bytes_string w 40 9 5 none _ 0 Tryz.underlying40 Tryz.underlying5 Tryz.underlying9]
    simp [Conv.bytesToString]; rfl
  · exact run_convert_bytes_arg w 40 5 Tryz.underlying40 Tryz.underlying5 g off xs.length c xs rfl hc _ Tryz.underlying9
theorem strOf_inj {xs ys : List Int} (hx : Byt xs) (hy : Byt ys) (h : strOfNums xs = strOfNums ys) : xs = ys := by
  have h1 : xs.map (fun n => UInt8.ofNat n.toNat) = ys.map (fun n => UInt8.ofNat n.toNat) := by
    have := congrArg (fun s : ByteArray => s.data.toList) h
    simpa [strOfNums] using this
  have hl : xs.length = ys.length := by simpa using congrArg List.length h1
  apply List.ext_getElem hl
  intro i hi hj
  have h2 : UInt8.ofNat (xs[i]).toNat = UInt8.ofNat (ys[i]).toNat := by
    have := congrArg (fun l : List UInt8 => l[i]?) h1
    simpa [hi, hj] using this
  have a := hx xs[i] (List.getElem_mem hi)
  have b := hy ys[i] (List.getElem_mem hj)
  have h3 := congrArg UInt8.toNat h2
  simp [UInt8.toNat_ofNat'] at h3
  omega
/-- Strings of bytes are the same just where the bytes are. -/
theorem strEq {xs ys : List Int} (hx : Byt xs) (hy : Byt ys) : ((strOfNums xs).toList == (strOfNums ys).toList) = decide (xs = ys) := by
  rw [Bool.eq_iff_iff, beq_iff_eq, decide_eq_true_eq]
  constructor
  · intro h
    apply strOf_inj hx hy
    have h2 : (strOfNums xs).data.toList = (strOfNums ys).data.toList := by
      have e : ∀ s : ByteArray, s.toList = s.data.toList := fun s => by exact ByteArray.toList_eq s
      rwa [e, e] at h
    apply ByteArray.ext
    exact Array.ext' h2
  · rintro rfl; rfl
theorem equal_any (w : World) (v u : Value) (xs ys : List Int) (hv : RowB w v xs) (hu : RowB w u ys) (hx : xs.length ≤ 70000) (hy : ys.length ≤ 70000) :
    Calls Tryz.prog 131 #[v, u] w fun e w' => e = .returned (.bool (decide (xs = ys))) ∧ w = w' := by
  have h1 := conv_row hv hx
  have h2 := conv_row hu hy
  have HI := Lib.hid (strEq hv.byt hu.byt)
  clear hv hu hx hy
  go_enter Tryz.func131, Tryz.ntmps131
  go_wp2
  go_ret
  exact ⟨by rw [← HI.out]; rfl, rfl⟩

end Go.Proofs.YtbcnkhfpogglmaaGreatDoor.U6

namespace Go.Proofs.YtbcnkhfpogglmaaGreatDoor.U6
open Go.RowKit
set_option linter.unusedVariables false
set_option maxRecDepth 100000

theorem belowD (w : World) (n : Nat) : Below w.heap.size w (w.drewN n) := ⟨rfl, rfl, rfl, Nat.le_refl _, fun _ _ => rfl⟩
def regEq (t u : US) : Bool := (t.ier == u.ier) && ((t.fcr == u.fcr) && ((t.lcr == u.lcr) && ((t.mcr == u.mcr) && ((t.scr == u.scr) && ((t.dl == u.dl) && (t.dm == u.dm))))))
/-- Whether two states are the same. -/
def sameU (t u : US) : Bool := decide (t.inn = u.inn) && (decide (t.out = u.out) && (((t.lost == u.lost) && (t.sent == u.sent)) && regEq t u))
def marksA (t : US) : Array Value := #[.bool t.lost, .bool t.sent]
def regsA (t : US) : Array Value := #[.int .u8 0, .int .u8 t.ier, .int .u8 t.fcr, .int .u8 t.lcr, .int .u8 t.mcr, .int .u8 0, .int .u8 0, .int .u8 t.scr, .int .u8 t.dl, .int .u8 t.dm]
theorem eql_marks (t u : US) (w : World) : (binOp .eql 128 (.agg (marksA t)) (.agg (marksA u))).run Tryz.prog w = .ok (.bool ((t.lost == u.lost) && (t.sent == u.sent))) w := by
  rw [run_eql_struct, run_equalIn_struct w 9999 128 _ _ (by kernel_rfl) (by kernel_rfl)]
  simp only [Program.fieldsOf, Tryz.underlying128]
  have e1 : (varr 2 fun i => (marksA t).getD i undef) = marksA t := rfl
  have e2 : (varr 2 fun i => (marksA u).getD i undef) = marksA u := rfl
  rw [← e1, ← e2]
  have a4 : ∀ w, (isAgg 4).run Tryz.prog w = .ok false w := fun _ => by kernel_rfl
  rw [run_fields_cons w (by decide) (run_part_one w (a4 w) (by decide)) (run_part_one w (a4 w) (by decide)) (run_equalIn_bool' w 9998 _ _ _ Tryz.underlying4)
    (run_fields_cons w (by decide) (run_part_one w (a4 w) (by decide)) (run_part_one w (a4 w) (by decide)) (run_equalIn_bool' w 9998 _ _ _ Tryz.underlying4) (run_fields_nil w _ _ _))]
  simp
def regsL (t : US) : List Int := [0, t.ier, t.fcr, t.lcr, t.mcr, 0, 0, t.scr, t.dl, t.dm]
theorem eql_regs (t u : US) (w : World) : (binOp .eql 129 (.agg (regsA t)) (.agg (regsA u))).run Tryz.prog w = .ok (.bool (regEq t u)) w := by
  have e1 : (varr 10 fun i => .int .u8 ((regsL t).getD i 0)) = regsA t := rfl
  have e2 : (varr 10 fun i => .int .u8 ((regsL u).getD i 0)) = regsA u := rfl
  have a5 : ∀ w, (isAgg 5).run Tryz.prog w = .ok false w := fun _ => by kernel_rfl
  have s5 : ∀ w, (sizeOf 5).run Tryz.prog w = .ok 1 w := fun _ => by kernel_rfl
  rw [run_eql_struct, ← e1, ← e2, run_equalIn_arr w Tryz.underlying129 (s5 w) _ _ (fun i => (regsL t).getD i 0 == (regsL u).getD i 0) fun i hi => ⟨.int .u8 ((regsL t).getD i 0), .int .u8 ((regsL u).getD i 0), by rw [Nat.mul_one, run_part_one w (a5 w) hi], by rw [Nat.mul_one, run_part_one w (a5 w) hi], run_equalIn_int w 9998 _ .u8 .u8 _ _ Tryz.underlying5⟩]
  simp [regsL, regEq, List.range, List.range.loop]

end Go.Proofs.YtbcnkhfpogglmaaGreatDoor.U6

namespace Go.Proofs.YtbcnkhfpogglmaaGreatDoor.U6
open Go.RowKit
set_option linter.unusedVariables false
set_option maxRecDepth 100000

/-- A call that tells a bool and turns nothing. -/
def SaysB (w : World) (r : Bool) (e : Ending) (w' : World) : Prop := e = .returned (.bool r) ∧ Below w.heap.size w w'
set_option maxRecDepth 100000 in
set_option maxHeartbeats 8000000 in
theorem same_any (w : World) (a b : Nat) (Fa Fb : Nat → Prop) (t u : US) (h : UP w a Fa t) (k : UP w b Fb u) :
    Calls Tryz.prog 95 #[.pointer (some ⟨a, 0, none⟩), .pointer (some ⟨b, 0, none⟩)] w (SaysB w (sameU t u)) := by
  obtain ⟨vi, vo, h⟩ := h
  obtain ⟨ui, uo, k⟩ := k
  have h1 := h.ok.li
  have h2 := h.ok.lo
  have k1 := k.ok.li
  have k2 := k.ok.lo
  have HE1 : Hid (∀ n, Calls Tryz.prog 131 #[vi, ui] (w.drewN n) fun e w' => e = .returned (.bool (decide (t.inn = u.inn))) ∧ w' = w.drewN n) := Lib.hid fun n => (equal_any (w.drewN n) vi ui t.inn u.inn (h.below (belowD w n)).ri (k.below (belowD w n)).ri (by omega) (by omega)).mono fun e w' h => ⟨h.1, h.2.symm⟩
  have HE2 : Hid (∀ n, Calls Tryz.prog 131 #[vo, uo] (w.drewN n) fun e w' => e = .returned (.bool (decide (t.out = u.out))) ∧ w' = w.drewN n) := Lib.hid fun n => (equal_any (w.drewN n) vo uo t.out u.out (h.below (belowD w n)).ro (k.below (belowD w n)).ro (by omega) (by omega)).mono fun e w' h => ⟨h.1, h.2.symm⟩
  obtain ⟨ai, ci, rfl, _, _, _⟩ := h.ri.reads (by omega)
  obtain ⟨ao, co, rfl, _, _, _⟩ := h.ro.reads (by omega)
  obtain ⟨bi, di, rfl, _, _, _⟩ := k.ri.reads (by omega)
  obtain ⟨bo, do_, rfl, _, _, _⟩ := k.ro.reads (by omega)
  obtain ⟨c0, c1, c2, c3⟩ := h.pcells
  obtain ⟨c4, c5, c6, c7, c8, c9, c10, c11, c12, c13⟩ := h.pregs
  obtain ⟨d0, d1, d2, d3⟩ := k.pcells
  obtain ⟨d4, d5, d6, d7, d8, d9, d10, d11, d12, d13⟩ := k.pregs
  have hm := fun wz => eql_marks t u wz
  have hg := fun wz => eql_regs t u wz
  unfold marksA at hm
  unfold regsA at hg
  have HU : Hid (sameU t u = (decide (t.inn = u.inn) && (decide (t.out = u.out) && (((t.lost == u.lost) && (t.sent == u.sent)) && regEq t u)))) := Lib.hid rfl
  clear h k h1 h2 k1 k2
  generalize sameU t u = R at *
  generalize regEq t u = rg at *
  generalize (t.lost == u.lost && t.sent == u.sent) = mk at *
  generalize decide (t.inn = u.inn) = r1 at *
  generalize decide (t.out = u.out) = r2 at *
  cases r1 with
  | false =>
    go_enter Tryz.func95, Tryz.ntmps95
    go_wp2
    go_quiet (((go_at_call 131; exact Calls.quiet_of_same (HE1.out _))))
    go_wp2
    go_ret
    exact ⟨by rw [HU.out]; rfl, belowD w _⟩
  | true =>
    cases r2 with
    | false =>
      go_enter Tryz.func95, Tryz.ntmps95
      go_wp2
      go_quiet ((first | (go_at_call 131; exact Calls.quiet_of_same (HE1.out _)) | (go_at_call 131; exact Calls.quiet_of_same (HE2.out _))))
      go_wp2
      go_ret
      exact ⟨by rw [HU.out]; rfl, belowD w _⟩
    | true =>
      cases mk with
      | false =>
        go_enter Tryz.func95, Tryz.ntmps95
        go_wp2
        go_quiet ((first | (go_at_call 131; exact Calls.quiet_of_same (HE1.out _)) | (go_at_call 131; exact Calls.quiet_of_same (HE2.out _))))
        go_wp2
        go_ret
        exact ⟨by rw [HU.out]; rfl, belowD w _⟩
      | true =>
        go_enter Tryz.func95, Tryz.ntmps95
        go_wp2
        go_quiet ((first | (go_at_call 131; exact Calls.quiet_of_same (HE1.out _)) | (go_at_call 131; exact Calls.quiet_of_same (HE2.out _))))
        go_wp2
        go_ret
        exact ⟨by rw [HU.out]; rfl, belowD w _⟩

end Go.Proofs.YtbcnkhfpogglmaaGreatDoor.U6

namespace Go.Proofs.YtbcnkhfpogglmaaGreatDoor.M3
open Go.RowKit
set_option linter.unusedVariables false
set_option maxRecDepth 100000

/-- The cells of a list of bytes at addresses. -/
def cellsOf (l : List (Int × Int)) : List Value := l.flatMap fun c => [.int .u64 c.1, .int .u8 c.2]
theorem cellsOf_append (l m : List (Int × Int)) : cellsOf (l ++ m) = cellsOf l ++ cellsOf m := by unfold cellsOf; simp
theorem cellsOf_get (l : List (Int × Int)) (k : Nat) (h : k < l.length) : (cellsOf l)[k * 2]? = some (.int .u64 (l.getD k (0, 0)).1) ∧ (cellsOf l)[k * 2 + 1]? = some (.int .u8 (l.getD k (0, 0)).2) := by
  induction l generalizing k with
  | nil => simp at h
  | cons c l ih =>
    cases k with
    | zero => simp [cellsOf]
    | succ k =>
      have e : cellsOf (c :: l) = .int .u64 c.1 :: .int .u8 c.2 :: cellsOf l := by simp [cellsOf]
      have := ih k (by simpa using h)
      rw [e, show (k + 1) * 2 = k * 2 + 1 + 1 by omega]
      simpa using this

/-- What the list tells of an address. -/
def look (l : List (Int × Int)) (x : Int) : Int := ((l.find? fun c => c.1 == x).map (·.2)).getD 0
theorem look_none {l : List (Int × Int)} {x : Int} (h : ∀ j, j < l.length → ¬ (l.getD j (0, 0)).1 = x) : look l x = 0 := by
  unfold look
  have : l.find? (fun c => c.1 == x) = none := by
    rw [List.find?_eq_none]
    intro c hc
    obtain ⟨j, hj, rfl⟩ := List.getElem_of_mem hc
    have := h j hj
    simpa [List.getD, hj] using this
  rw [this]; rfl
theorem look_some {l : List (Int × Int)} {x : Int} {k : Nat} (hk : k < l.length) (h : ∀ j, j < k → ¬ (l.getD j (0, 0)).1 = x) (e : (l.getD k (0, 0)).1 = x) : look l x = (l.getD k (0, 0)).2 := by
  unfold look
  have : l.find? (fun c => c.1 == x) = some (l.getD k (0, 0)) := by
    rw [List.find?_eq_some_iff_getElem]
    refine ⟨by simpa using e, k, hk, by simp [List.getD, hk], fun j hj => ?_⟩
    have := h j hj
    simpa [List.getD, show j < l.length by omega] using this
  rw [this]; rfl

/-- The struct in block b holds base, size and that list, whose cells lie in block g. -/
def RefRam (w : World) (b g : Nat) (base size : Int) (l : List (Int × Int)) : Prop :=
  ∃ a c, w.heap[b]? = some (.cells #[.int .u64 base, .int .u64 size, .slice a l.length c] 144 (0, 0)) ∧ l.length ≤ 1000000 ∧ (l = [] ∨ a = some ⟨g, 0, none⟩ ∧ g ≠ b ∧ Lays w g (cellsOf l))

theorem refAt_any (w : World) (b g : Nat) (base size : Int) (l : List (Int × Int)) (x : Int) (h : RefRam w b g base size l) :
    Calls Tryz.prog 114 #[.pointer (some ⟨b, 0, none⟩), .int .u64 x] w fun e w' => e = .returned (.int .u8 (look l x)) ∧ w = w' := by
  obtain ⟨a, c, hb, hm, hx⟩ := h
  have hc2 : w.cell? ⟨b, 2, none⟩ = some (.slice a l.length c) := by rw [cell_of_row w b 2 _ _ _ hb]; rfl
  go_enter Tryz.func114, Tryz.ntmps114
  go_wp2
  go_loop [5] (fun i => ∃ k : Nat, k ≤ l.length ∧ i = .int .i64 k ∧ ∀ j, j < k → ¬ (l.getD j (0, 0)).1 = x) (fun i => l.length - (intOf i).toNat)
  case atStart => exact ⟨0, Nat.zero_le _, rfl, fun j hj => absurd hj (by omega)⟩
  case round =>
    obtain ⟨k, hk, rfl, hno⟩ := hrel
    have HN := Lib.hid hno
    clear hno
    by_cases hlt : k < l.length
    · rcases hx with rfl | ⟨rfl, hne, hl⟩
      · simp at hlt
      have hA := hl.cell (cellsOf_get l k hlt).1
      have hB := hl.cell (cellsOf_get l k hlt).2
      by_cases e : (l.getD k (0, 0)).1 = x
      · have hr := Lib.hid (look_some hlt HN.out e)
        have ee : ((l.getD k (0, 0)).1 == x) = true := by simpa using e
        clear e hl
        generalize l.getD k (0, 0) = cc at *
        go_wp2
        go_ret
        exact ⟨by rw [hr.out]; rfl, rfl⟩
      · have ee : ((l.getD k (0, 0)).1 == x) = false := by simpa using e
        have HE := Lib.hid e
        clear e hl
        obtain ⟨cc, hcc⟩ : ∃ cc, l.getD k (0, 0) = cc := ⟨_, rfl⟩
        rw [hcc] at hA hB ee HE
        have HC := Lib.hid hcc
        clear hcc
        go_wp2
        go_round
        case rel => exact ⟨k + 1, by omega, by go_num, fun j hj => by
          by_cases hjk : j < k
          · exact HN.out j hjk
          · obtain rfl : j = k := by omega
            rw [HC.out]; exact HE.out⟩
        case measure => simp [intOf]; omega
    · have hr := Lib.hid (look_none (l := l) (x := x) fun j hj => HN.out j (by omega))
      go_wp2
      go_ret
      exact ⟨by rw [hr.out]; rfl, rfl⟩

/-- The list behind a set. -/
def setL (l : List (Int × Int)) (x v : Int) : List (Int × Int) := l.filter (fun c => c.1 != x) ++ if v = 0 then [] else [(x, v)]
theorem filter_take_hit {l : List (Int × Int)} {x : Int} {k : Nat} {c : Int × Int} (hk : k < l.length) (hc : l.getD k (0, 0) = c) (e : c.1 = x) : (l.take (k + 1)).filter (fun c => c.1 != x) = (l.take k).filter (fun c => c.1 != x) := by
  rw [List.take_succ_eq_append_getElem hk, List.filter_append]
  have : l[k] = c := by simpa [List.getD, hk] using hc
  rw [this]; simp [e]
theorem filter_take_miss {l : List (Int × Int)} {x : Int} {k : Nat} {c : Int × Int} (hk : k < l.length) (hc : l.getD k (0, 0) = c) (e : ¬ c.1 = x) : (l.take (k + 1)).filter (fun c => c.1 != x) = (l.take k).filter (fun c => c.1 != x) ++ [c] := by
  rw [List.take_succ_eq_append_getElem hk, List.filter_append]
  have : l[k] = c := by simpa [List.getD, hk] using hc
  rw [this]; simp [e]
theorem filter_take_le (l : List (Int × Int)) (x : Int) (k : Nat) : ((l.take k).filter (fun c => c.1 != x)).length ≤ l.length :=
  Nat.le_trans (List.length_filter_le _ _) (by rw [List.length_take]; omega)
theorem setL_len (l : List (Int × Int)) (x v : Int) : (setL l x v).length ≤ l.length + 1 := by
  have := List.length_filter_le (fun c : Int × Int => c.1 != x) l
  unfold setL; rw [List.length_append]; split <;> simp <;> omega

theorem info_cell : (Tryz.prog.info? 150).map (fun i => (i.zero, i.size, i.bytes)) = some (some (.agg #[.int .u64 0, .int .u8 0]), 2, 16) := by kernel_rfl

/-- What set leaves. -/
def SetEnd (w : World) (b : Nat) (base size : Int) (l : List (Int × Int)) (x v : Int) (e : Ending) (w' : World) : Prop :=
  (∃ u, e = .returned u) ∧ Only (fun i => i = b) w w' ∧ ∃ g', w.heap.size ≤ g' ∧ RefRam w' b g' base size (setL l x v)

theorem own_slice {w : World} {B : Nat} {e : TypeId} {size : Nat} {s : Value} {n : Nat} {vs : List Value} (h : w.ownsRow B e size s n vs) : ∃ A m C, s = .slice A m C := by
  rcases Lays.own h with ⟨rfl, _, _⟩ | ⟨g, cap, rfl, _, _⟩
  · exact ⟨_, _, _, rfl⟩
  · exact ⟨_, _, _, rfl⟩
theorem set_end {w w1 : World} {b c : Nat} {base size : Int} {a : Option Addr} {l : List (Int × Int)} {x v : Int} {s : Value} {n : Nat} {u : Value} (hbl : b < w.heap.size)
    (hbb : w1.heap[b]? = some (.cells #[.int .u64 base, .int .u64 size, .slice a n c] 144 (0, 0))) (R2 : Below w.heap.size w w1)
    (HO : w1.ownsRow w.heap.size 150 2 s (setL l x v).length (cellsOf (setL l x v))) (hn : (setL l x v).length ≤ l.length + 1) (hl : l.length < 1000000) :
    SetEnd w b base size l x v (.returned u) (w1.setCell ⟨b, 2, none⟩ s) := by
  have hO : Only (fun i => i = b) w (w1.setCell ⟨b, 2, none⟩ s) := (Only.of_below (fun i => i = b) R2).setCell (p := ⟨b, 2, none⟩) (.inl rfl) s
  have hB : (w1.setCell ⟨b, 2, none⟩ s).heap[b]? = some (.cells #[.int .u64 base, .int .u64 size, s] 144 (0, 0)) := by rw [heap_setCell_same w1 b 2 _ _ _ hbb]; rfl
  have hO2 : Only (fun i => i = b) w1 (w1.setCell ⟨b, 2, none⟩ s) := (Only.refl (fun i => i = b) w1).setCell (p := ⟨b, 2, none⟩) (.inl rfl) s
  rcases Lays.own HO with ⟨rfl, h0, hv⟩ | ⟨g, cap, rfl, hg, hl2⟩
  · exact ⟨⟨_, rfl⟩, hO, w.heap.size, Nat.le_refl _, _, _, by rw [List.length_eq_zero_iff.1 h0]; exact hB, by omega, .inl (List.length_eq_zero_iff.1 h0)⟩
  · exact ⟨⟨_, rfl⟩, hO, g, hg, _, _, hB, by omega, .inr ⟨rfl, by omega, hl2.keeps hO2 (by omega)⟩⟩

set_option maxHeartbeats 1000000 in
theorem refSet_any (w : World) (b g : Nat) (base size : Int) (l : List (Int × Int)) (x v : Int) (h : RefRam w b g base size l) (hl1 : l.length < 1000000) :
    Calls Tryz.prog 111 #[.pointer (some ⟨b, 0, none⟩), .int .u64 x, .int .u8 v] w (SetEnd w b base size l x v) := by
  obtain ⟨i0, hi, hz0, hz1, hz2⟩ := info_parts info_cell
  obtain ⟨a, c, hb, hm, hx⟩ := h
  have hbl : b < w.heap.size := (Array.getElem?_eq_some_iff.1 hb).1
  go_enter Tryz.func111, Tryz.ntmps111
  go_wp2
  go_loopw [6, 7] (fun s i wr => ∃ k : Nat, k ≤ l.length ∧ i = .int .i64 k ∧ wr.ownsRow w.heap.size 150 2 s ((l.take k).filter (fun c => c.1 != x)).length (cellsOf ((l.take k).filter (fun c => c.1 != x))) ∧ Below w.heap.size w wr)
    (fun _ i _ => l.length - (intOf i).toNat)
  case atStart => exact ⟨0, Nat.zero_le _, rfl, World.ownsRow_nil _ _ _ _, Below.refl _ _⟩
  case round =>
    obtain ⟨k, hk, rfl, hown, hbr⟩ := hrel
    have hbb := (hbr.block b hbl).trans hb
    have hc2 : wr.cell? ⟨b, 2, none⟩ = some (.slice a l.length c) := by rw [cell_of_row wr b 2 _ _ _ hbb]; rfl
    have HF := filter_take_le l x k
    by_cases hlt : k < l.length
    · rcases hx with rfl | ⟨rfl, hne, hl⟩
      · simp at hlt
      have hl2 := hl.keeps (Only.of_below (fun _ => False) hbr) id
      obtain ⟨cc, hcc⟩ : ∃ cc, l.getD k (0, 0) = cc := ⟨_, rfl⟩
      have hA := hl2.cell (cellsOf_get l k hlt).1
      have hB := hl2.cell (cellsOf_get l k hlt).2
      rw [hcc] at hA hB
      have HL := Lib.hid hl
      have HB0 := Lib.hid hb
      by_cases e : cc.1 = x
      · have ee : (cc.1 != x) = false := by simpa using e
        have HE := Lib.hid (filter_take_hit hlt hcc e)
        clear e hl hl2 hcc hb hbb
        go_wp2
        go_roundw
        case rel => exact ⟨k + 1, by omega, by go_num, by rw [HE.out]; exact hown, hbr⟩
        case measure => simp [intOf]; omega
      · have ee : (cc.1 != x) = true := by simpa using e
        have HE := Lib.hid (filter_take_miss hlt hcc e)
        clear e hl hl2 hcc hb hbb
        go_wp2_with (at_builtin; refine wpList_append_own _ rfl _ _ 142 rfl w.heap.size 150 i0 (.agg #[.int .u64 0, .int .u8 0]) 2 16 Tryz.underlying142 hi hz0 hz1 hz2 rfl (by decide) _ _ _ rfl (hown.alloc _) ⟨wr.heap.size, 0, none⟩ 1 1 [.int .u64 cc.1, .int .u8 cc.2] rfl rfl ?c1 ?c2 ?c3 ?c4 ?c5 ?_)
        case c1 =>
          intro j u hj
          match j, hj with
          | 0, hj => simp at hj; subst hj; simp [Addr.add]
          | 1, hj => simp at hj; subst hj; simp [Addr.add]
        case c2 => intro u hu; simp at hu; rcases hu with rfl | rfl <;> rfl
        case c3 => unfold maxLen; omega
        case c4 => omega
        case c5 => have := hbr.size; simp; omega
        intro v' w1 hown' hgrow _
        have R2 : Below w.heap.size w w1 := (hbr.alloc (by have := hbr.size; omega) _).grown hgrow (by have := hbr.size; simp; omega) (fun j hj => (hown.lt j hj).1)
        have R : w1.ownsRow w.heap.size 150 2 v' ((l.take (k + 1)).filter (fun c => c.1 != x)).length (cellsOf ((l.take (k + 1)).filter (fun c => c.1 != x))) := by
          rw [HE.out, cellsOf_append, List.length_append]; exact hown'
        clear hown' hgrow hown hbr
        go_wp2
        go_roundw
        case rel => exact ⟨k + 1, by omega, by go_num, R, R2⟩
        case measure => simp [intOf]; omega
    · obtain rfl : k = l.length := by omega
      rw [List.take_length] at hown HF
      generalize hf : l.filter (fun c => c.1 != x) = f at *
      have HFe := Lib.hid hf
      clear hf
      have hfz := frozen_of_row wr b 2 _ _ hbb
      have HB0 := Lib.hid hb
      by_cases hv : v = 0
      · have e : setL l x v = f := by unfold setL; rw [HFe.out, if_pos hv, List.append_nil]
        have HO : wr.ownsRow w.heap.size 150 2 u6 (setL l x v).length (cellsOf (setL l x v)) := by rw [e]; exact hown
        have HBB := Lib.hid hbb
        subst hv
        obtain ⟨A, n', C, rfl⟩ := own_slice HO
        clear hown hb hbb e
        go_wp2
        go_end0
        exact set_end hbl HBB.out hbr HO (setL_len l x 0) hl1
      · have hvv : (v != 0) = true := by simpa using hv
        have HV := Lib.hid hv
        clear hv
        go_wp2_with (at_builtin; refine wpList_append_own _ rfl _ _ 142 rfl w.heap.size 150 i0 (.agg #[.int .u64 0, .int .u8 0]) 2 16 Tryz.underlying142 hi hz0 hz1 hz2 rfl (by decide) _ _ _ rfl (hown.alloc _) ⟨wr.heap.size, 0, none⟩ 1 1 [.int .u64 x, .int .u8 v] rfl rfl ?c1 ?c2 ?c3 ?c4 ?c5 ?_)
        case c1 =>
          intro j u hj
          match j, hj with
          | 0, hj => simp at hj; subst hj; simp [Addr.add]
          | 1, hj => simp at hj; subst hj; simp [Addr.add]
        case c2 => intro u hu; simp at hu; rcases hu with rfl | rfl <;> rfl
        case c3 => unfold maxLen; omega
        case c4 => omega
        case c5 => have := hbr.size; simp; omega
        intro v' w1 hown' hgrow _
        have R2 : Below w.heap.size w w1 := (hbr.alloc (by have := hbr.size; omega) _).grown hgrow (by have := hbr.size; simp; omega) (fun j hj => (hown.lt j hj).1)
        have hbb2 := (R2.block b hbl).trans HB0.out
        have hc3 : w1.cell? ⟨b, 2, none⟩ = some (.slice a l.length c) := by rw [cell_of_row w1 b 2 _ _ _ hbb2]; rfl
        have hfz2 := frozen_of_row w1 b 2 _ _ hbb2
        have HBB := Lib.hid hbb2
        have HO : w1.ownsRow w.heap.size 150 2 v' (setL l x v).length (cellsOf (setL l x v)) := by
          have e : setL l x v = f ++ [(x, v)] := by unfold setL; rw [HFe.out, if_neg HV.out]
          rw [e, cellsOf_append, List.length_append]; exact hown'
        obtain ⟨A, n', C, rfl⟩ := own_slice HO
        clear hown' hgrow hown hbr hbb2 hb hbb
        go_wp2
        go_end0
        exact set_end hbl HBB.out R2 HO (setL_len l x v) hl1

end Go.Proofs.YtbcnkhfpogglmaaGreatDoor.M3

namespace Go.Proofs.YtbcnkhfpogglmaaGreatDoor.M3
open Go.RowKit
set_option linter.unusedVariables false
set_option maxRecDepth 100000

theorem ret_int {k : IntKind} {a b : Int} (h : a = b) : Ending.returned (.int k a) = .returned (.int k b) := by rw [h]
theorem ret_bool {a b : Bool} (h : a = b) : Ending.returned (.bool a) = .returned (.bool b) := by rw [h]
theorem ret_two {k : IntKind} {a b : Int} {v u : Value} (h : a = b) (h2 : v = u) : Ending.returned (.tuple #[.int k a, v]) = .returned (.tuple #[.int k b, u]) := by rw [h, h2]

/-- A base and a size that a memory may have. -/
def Fits (base size : Int) : Prop := 0 ≤ base ∧ 4096 ≤ size ∧ size ≤ 67108864 ∧ base + size ≤ 9223372036854775808
/-- P3.2: the n bytes from x on lie in it. -/
def hasZ (base size x n : Int) : Bool := decide (0 ≤ n ∧ (n = 0 ∨ base ≤ x ∧ x + n ≤ base + size))
def liesZ (base size x : Int) : Bool := decide (base ≤ x ∧ x < base + size)

/-- The list's entries are bytes that are not 0, each address once. -/
def Fine (l : List (Int × Int)) : Prop := (∀ c ∈ l, In64 c.1 ∧ 1 ≤ c.2 ∧ c.2 ≤ 255) ∧ (l.map (·.1)).Nodup
theorem look_mem {l : List (Int × Int)} {x : Int} : look l x = 0 ∨ ∃ c ∈ l, c.1 = x ∧ look l x = c.2 := by
  unfold look
  cases h : l.find? (fun c => c.1 == x) with
  | none => exact .inl rfl
  | some c =>
    have h1 := List.mem_of_find?_eq_some h
    have h2 := List.find?_some h
    exact .inr ⟨c, h1, by simpa using h2, rfl⟩
theorem look_in {l : List (Int × Int)} (h : Fine l) (x : Int) : 0 ≤ look l x ∧ look l x ≤ 255 := by
  rcases look_mem (l := l) (x := x) with e | ⟨c, hc, _, e⟩
  · rw [e]; omega
  · have := h.1 c hc; rw [e]; omega

theorem RefRam.keeps {S : Nat → Prop} {w w' : World} {b g : Nat} {base size : Int} {l : List (Int × Int)} (h : RefRam w b g base size l) (k : Only S w w') (hb : ¬ S b) (hg : ¬ S g) : RefRam w' b g base size l := by
  obtain ⟨a, c, h1, h2, h3⟩ := h
  refine ⟨a, c, k.keeps hb h1, h2, ?_⟩
  rcases h3 with h3 | ⟨h4, h5, h6⟩
  · exact .inl h3
  · exact .inr ⟨h4, h5, h6.keeps k hg⟩
theorem RefRam.below {w w' : World} {b g : Nat} {base size : Int} {l : List (Int × Int)} (h : RefRam w b g base size l) (k : Below w.heap.size w w') : RefRam w' b g base size l :=
  h.keeps (Only.of_below (fun _ => False) k) id id
theorem RefRam.lt {w : World} {b g : Nat} {base size : Int} {l : List (Int × Int)} (h : RefRam w b g base size l) : b < w.heap.size := by
  obtain ⟨a, c, h1, _⟩ := h; exact (Array.getElem?_eq_some_iff.1 h1).1
theorem RefRam.base {w : World} {b g : Nat} {base size : Int} {l : List (Int × Int)} (h : RefRam w b g base size l) : w.cell? ⟨b, 0, none⟩ = some (.int .u64 base) := by
  obtain ⟨a, c, h1, _⟩ := h; rw [cell_of_row w b 0 _ _ _ h1]; rfl
theorem RefRam.size {w : World} {b g : Nat} {base size : Int} {l : List (Int × Int)} (h : RefRam w b g base size l) : w.cell? ⟨b, 1, none⟩ = some (.int .u64 size) := by
  obtain ⟨a, c, h1, _⟩ := h; rw [cell_of_row w b 1 _ _ _ h1]; rfl

theorem refLies_q (w : World) (b g : Nat) (base size : Int) (l : List (Int × Int)) (x : Int) (h : RefRam w b g base size l) (hf : Fits base size) (hx : In64 x) :
    Calls Tryz.prog 137 #[.pointer (some ⟨b, 0, none⟩), .int .u64 x] w fun e w' => e = .returned (.bool (liesZ base size x)) ∧ ∃ k, w' = w.drewN k := by
  have h0 := h.base
  have h1 := h.size
  obtain ⟨f1, f2, f3, f4⟩ := hf
  obtain ⟨x1, x2⟩ := hx
  clear h
  by_cases c : base ≤ x
  · have E : Hid (decide (x - base < size) = liesZ base size x) := by
      refine Lib.hid ?_
      unfold liesZ; rw [decide_eq_decide]; omega
    have hd : decide (base ≤ x) = true := decide_eq_true c
    have hw : IntKind.u64.wrap (x - base) = x - base := by rw [IntKind.wrap_u64]; omega
    go_enter Tryz.func137, Tryz.ntmps137
    go_wp2
    go_quiet (fail)
    go_wp2
    go_ret
    exact ⟨ret_bool E.out, nq, rfl⟩
  · have E : Hid (false = liesZ base size x) := by
      refine Lib.hid ?_
      unfold liesZ; rw [decide_eq_false]; omega
    have hd : decide (base ≤ x) = false := decide_eq_false c
    go_enter Tryz.func137, Tryz.ntmps137
    go_wp2
    go_quiet (fail)
    go_wp2
    go_ret
    exact ⟨ret_bool E.out, nq, rfl⟩

theorem hasZ_no {base size x n : Int} (h : n < 0) : hasZ base size x n = false := by unfold hasZ; rw [decide_eq_false]; omega
theorem hasZ_none {base size x : Int} : hasZ base size x 0 = true := by unfold hasZ; rw [decide_eq_true]; omega
theorem hasZ_great {base size x n : Int} (hf : Fits base size) (h : 67108864 < n) : hasZ base size x n = false := by
  obtain ⟨f1, f2, f3, f4⟩ := hf; unfold hasZ; rw [decide_eq_false]; omega

theorem refHas_q (w : World) (b g : Nat) (base size : Int) (l : List (Int × Int)) (x n : Int) (h : RefRam w b g base size l) (hf : Fits base size) (hx : In64 x) :
    Calls Tryz.prog 110 #[.pointer (some ⟨b, 0, none⟩), .int .u64 x, .int .i64 n] w fun e w' => e = .returned (.bool (hasZ base size x n)) ∧ ∃ k, w' = w.drewN k := by
  by_cases c0 : n < 0
  · rw [hasZ_no c0]
    go_enter Tryz.func110, Tryz.ntmps110
    go_wp2
    go_ret
    exact ⟨rfl, 0, rfl⟩
  by_cases c1 : n = 0
  · subst c1
    rw [hasZ_none]
    go_enter Tryz.func110, Tryz.ntmps110
    go_wp2
    go_ret
    exact ⟨rfl, 0, rfl⟩
  have c1b : (n == 0) = false := by simpa using c1
  by_cases c2 : 67108864 < n
  · rw [hasZ_great hf c2]
    clear c1
    go_enter Tryz.func110, Tryz.ntmps110
    go_wp2
    go_ret
    exact ⟨rfl, 0, rfl⟩
  obtain ⟨y, hy⟩ : ∃ y, IntKind.u64.wrap (x + (n - 1)) = y := ⟨_, rfl⟩
  have iy : In64 y := by rw [← hy, wrap_eq]; exact U_in _
  have n1 : 1 ≤ n := by omega
  have n2 : IntKind.u64.wrap (n - 1) = n - 1 := by rw [IntKind.wrap_u64]; omega
  have R : hasZ base size x n = (liesZ base size x && (decide (x ≤ y) && liesZ base size y)) := by
    obtain ⟨f1, f2, f3, f4⟩ := hf
    obtain ⟨x1, x2⟩ := hx
    rw [IntKind.wrap_u64] at hy
    unfold hasZ liesZ
    rw [Bool.eq_iff_iff]
    simp only [Bool.and_eq_true, decide_eq_true_eq]
    constructor
    · intro ⟨_, hh⟩; omega
    · intro ⟨h1, h2, h3⟩; omega
  rw [R]
  have HH := Lib.hid h
  have HFi := Lib.hid hf
  have HX := Lib.hid hx
  have HY := Lib.hid iy
  clear R c1 h hf hx iy
  cases d1 : liesZ base size x
  · go_enter Tryz.func110, Tryz.ntmps110
    go_wp2_with fail
    refine (refLies_q _ b g base size l _ HH.out HFi.out HX.out).mono ?_
    rintro e w1 ⟨rfl, q1, rfl⟩
    go_wp2
    go_ret
    exact ⟨rfl, q1, rfl⟩
  · cases d2 : decide (x ≤ y)
    · go_enter Tryz.func110, Tryz.ntmps110
      go_wp2_with fail
      refine (refLies_q _ b g base size l _ HH.out HFi.out HX.out).mono ?_
      rintro e w1 ⟨rfl, q1, rfl⟩
      have d3 : ¬ x ≤ y := by simpa using d2
      go_wp2
      go_ret
      exact ⟨rfl, q1, rfl⟩
    · have d3 : x ≤ y := by simpa using d2
      go_enter Tryz.func110, Tryz.ntmps110
      go_wp2_with fail
      refine (refLies_q _ b g base size l _ HH.out HFi.out HX.out).mono ?_
      rintro e w1 ⟨rfl, q1, rfl⟩
      go_wp2_with fail
      refine (refLies_q _ b g base size l _ (HH.out.below (below_drewN (Below.refl _ _) q1)) HFi.out HY.out).mono ?_
      rintro e w2 ⟨rfl, q2, rfl⟩
      go_wp2
      go_ret
      exact ⟨rfl, q1 + q2, by simp⟩

theorem refHas_any (w : World) (b g : Nat) (base size : Int) (l : List (Int × Int)) (x n : Int) (h : RefRam w b g base size l) (hf : Fits base size) (hx : In64 x) :
    Calls Tryz.prog 110 #[.pointer (some ⟨b, 0, none⟩), .int .u64 x, .int .i64 n] w fun e w' => e = .returned (.bool (hasZ base size x n)) ∧ Below w.heap.size w w' :=
  (refHas_q w b g base size l x n h hf hx).mono fun e w' ⟨he, k, hk⟩ => ⟨he, by rw [hk]; exact below_drewN (Below.refl _ _) k⟩

end Go.Proofs.YtbcnkhfpogglmaaGreatDoor.M3

namespace Go.Proofs.YtbcnkhfpogglmaaGreatDoor.M3
open Go.RowKit
set_option linter.unusedVariables false
set_option maxRecDepth 100000

/-- The number of c bytes at x. -/
def rdN (m : Int → Int) (x : Int) : Nat → Int
  | 0 => 0
  | c + 1 => m x + 256 * rdN m (x + 1) c
/-- Memory behind a number of c bytes was written at x. -/
def wrN (m : Int → Int) (x v : Int) : Nat → Int → Int
  | 0, y => m y
  | c + 1, y => if y = x then v % 256 else wrN m (x + 1) (v / 256) c y
def Bytey (m : Int → Int) : Prop := ∀ y, 0 ≤ m y ∧ m y ≤ 255

theorem rdN_in {m : Int → Int} (h : Bytey m) (x : Int) (c : Nat) : 0 ≤ rdN m x c ∧ rdN m x c < 256 ^ c := by
  induction c generalizing x with
  | zero => simp [rdN]
  | succ c ih =>
    have h1 := ih (x + 1)
    have h2 := h x
    have e : (256 : Int) ^ (c + 1) = 256 * 256 ^ c := by rw [Int.pow_succ, Int.mul_comm]
    rw [e]; unfold rdN
    omega
theorem rdN_congr {m m' : Int → Int} {x : Int} {c : Nat} (h : ∀ y, x ≤ y → y < x + c → m y = m' y) : rdN m x c = rdN m' x c := by
  induction c generalizing x with
  | zero => rfl
  | succ c ih =>
    unfold rdN
    rw [h x (by omega) (by omega), ih fun y h1 h2 => h y (by omega) (by omega)]
theorem pow256_le {a b : Nat} (h : a ≤ b) : (256 : Int) ^ a ≤ 256 ^ b := by
  have h1 := Int.ofNat_le.2 (Nat.pow_le_pow_right (n := 256) (by omega) h)
  simpa [Int.natCast_pow] using h1
theorem rdN_8 {m : Int → Int} (h : Bytey m) (x : Int) {c : Nat} (hc : c ≤ 8) : 0 ≤ rdN m x c ∧ rdN m x c ≤ 18446744073709551615 := by
  have h1 := rdN_in h x c
  have h2 := pow256_le hc
  have e : (256 : Int) ^ 8 = 18446744073709551616 := by decide
  omega
theorem rdN_7 {m : Int → Int} (h : Bytey m) (x : Int) {c : Nat} (hc : c ≤ 7) : 0 ≤ rdN m x c ∧ rdN m x c ≤ 72057594037927935 := by
  have h1 := rdN_in h x c
  have h2 := pow256_le hc
  have e : (256 : Int) ^ 7 = 72057594037927936 := by decide
  omega

theorem wrN_out {m : Int → Int} {x v : Int} {c : Nat} {y : Int} (h : y < x ∨ x + c ≤ y) : wrN m x v c y = m y := by
  induction c generalizing x v with
  | zero => rfl
  | succ c ih =>
    unfold wrN
    rw [if_neg (by omega), ih (by omega)]
theorem wrN_at {m : Int → Int} {x v : Int} {c : Nat} {i : Nat} (h : i < c) : wrN m x v c (x + i) = v / 256 ^ i % 256 := by
  induction c generalizing x v i with
  | zero => omega
  | succ c ih =>
    unfold wrN
    cases i with
    | zero => simp
    | succ i =>
      rw [if_neg (by omega), show x + ((i + 1 : Nat) : Int) = x + 1 + (i : Int) by omega, ih (by omega), Int.pow_succ, Int.mul_comm, ← Int.ediv_ediv_of_nonneg (by omega)]
/-- One byte written ahead of the others. -/
theorem wrN_step (m : Int → Int) (x v : Int) (c : Nat) (y : Int) : wrN (fun z => if z = x then v % 256 else m z) (x + 1) (v / 256) c y = wrN m x v (c + 1) y := by
  show _ = if y = x then v % 256 else wrN m (x + 1) (v / 256) c y
  by_cases e : y = x
  · rw [if_pos e, wrN_out (by omega), if_pos e]
  · rw [if_neg e]
    generalize v / 256 = u
    have : ∀ (c : Nat) (x' u : Int), x < x' → wrN (fun z => if z = x then v % 256 else m z) x' u c y = wrN m x' u c y := by
      intro c
      induction c with
      | zero => intro x' u _; show (if y = x then v % 256 else m y) = m y; rw [if_neg e]
      | succ c ih =>
        intro x' u hx
        unfold wrN
        rw [ih _ _ (by omega)]
    exact this c (x + 1) u (by omega)
end Go.Proofs.YtbcnkhfpogglmaaGreatDoor.M3

namespace Go.Proofs.YtbcnkhfpogglmaaGreatDoor.M3
open Go.RowKit
set_option linter.unusedVariables false
set_option maxRecDepth 100000

theorem look_set {l : List (Int × Int)} {x v y : Int} : look (setL l x v) y = if y = x then v else look l y := by
  unfold look setL
  rw [List.find?_append, List.find?_filter]
  by_cases e : y = x
  · subst e
    rw [if_pos rfl]
    have h : l.find? (fun a => decide ((a.1 != y) = true ∧ (a.1 == y) = true)) = none := by
      rw [List.find?_eq_none]; intro a _; simp
    rw [h]
    by_cases hv : v = 0
    · rw [if_pos hv, hv]; rfl
    · rw [if_neg hv]; simp
  · rw [if_neg e]
    have h : (fun a : Int × Int => decide ((a.1 != x) = true ∧ (a.1 == y) = true)) = fun a => a.1 == y := by
      funext a
      by_cases c : a.1 = y
      · simp [c, e]
      · simp [c]
    rw [h]
    cases l.find? (fun a => a.1 == y) with
    | some c => rfl
    | none =>
      by_cases hv : v = 0
      · rw [if_pos hv]; rfl
      · rw [if_neg hv]
        have : ¬ x = y := fun h => e h.symm
        simp [this]
theorem fine_set {l : List (Int × Int)} {x v : Int} (h : Fine l) (hx : In64 x) (h0 : 0 ≤ v) (h1 : v ≤ 255) : Fine (setL l x v) := by
  have hn : ((l.filter fun c => c.1 != x).map (·.1)).Nodup := List.Nodup.sublist (List.Sublist.map _ List.filter_sublist) h.2
  unfold setL
  by_cases hv : v = 0
  · rw [if_pos hv, List.append_nil]
    exact ⟨fun c hc => h.1 c (List.mem_filter.1 hc).1, hn⟩
  · rw [if_neg hv]
    constructor
    · intro c hc
      rcases List.mem_append.1 hc with hc | hc
      · exact h.1 c (List.mem_filter.1 hc).1
      · simp at hc; subst hc; exact ⟨hx, by omega, h1⟩
    · rw [List.map_append, List.nodup_append]
      refine ⟨hn, by simp, ?_⟩
      intro a ha b hb
      simp at hb; subst hb
      intro e; subst e
      obtain ⟨c, hc, rfl⟩ := List.mem_map.1 ha
      have := (List.mem_filter.1 hc).2
      simp at this

/-- The object in block b (its list in block g) is that memory, its list no longer than N. -/
def RefMem (w : World) (b g : Nat) (base size : Int) (N : Nat) (m : Int → Int) : Prop :=
  ∃ l, RefRam w b g base size l ∧ Fine l ∧ (∀ y, look l y = m y) ∧ l.length ≤ N
theorem RefMem.bytey {w : World} {b g : Nat} {base size : Int} {N : Nat} {m : Int → Int} (h : RefMem w b g base size N m) : Bytey m := by
  obtain ⟨l, _, hf, hm, _⟩ := h
  intro y; rw [← hm y]; exact look_in hf y
theorem RefMem.keeps {S : Nat → Prop} {w w' : World} {b g : Nat} {base size : Int} {N : Nat} {m : Int → Int} (h : RefMem w b g base size N m) (k : Only S w w') (hb : ¬ S b) (hg : ¬ S g) : RefMem w' b g base size N m := by
  obtain ⟨l, h1, h2, h3, h4⟩ := h; exact ⟨l, h1.keeps k hb hg, h2, h3, h4⟩
theorem RefMem.below {w w' : World} {b g : Nat} {base size : Int} {N : Nat} {m : Int → Int} (h : RefMem w b g base size N m) (k : Below w.heap.size w w') : RefMem w' b g base size N m :=
  h.keeps (Only.of_below (fun _ => False) k) id id
theorem RefMem.lt {w : World} {b g : Nat} {base size : Int} {N : Nat} {m : Int → Int} (h : RefMem w b g base size N m) : b < w.heap.size := by
  obtain ⟨l, h1, _⟩ := h; exact h1.lt

theorem mem_at (w : World) (b g : Nat) (base size : Int) (N : Nat) (m : Int → Int) (x : Int) (h : RefMem w b g base size N m) :
    Calls Tryz.prog 114 #[.pointer (some ⟨b, 0, none⟩), .int .u64 x] w fun e w' => e = .returned (.int .u8 (m x)) ∧ w = w' := by
  obtain ⟨l, h1, h2, h3, h4⟩ := h
  rw [← h3 x]; exact refAt_any w b g base size l x h1
theorem mem_has (w : World) (b g : Nat) (base size : Int) (N : Nat) (m : Int → Int) (x n : Int) (h : RefMem w b g base size N m) (hf : Fits base size) (hx : In64 x) :
    Calls Tryz.prog 110 #[.pointer (some ⟨b, 0, none⟩), .int .u64 x, .int .i64 n] w fun e w' => e = .returned (.bool (hasZ base size x n)) ∧ Below w.heap.size w w' := by
  obtain ⟨l, h1, h2, h3, h4⟩ := h
  exact refHas_any w b g base size l x n h1 hf hx

/-- What set leaves. -/
def MemSet (w : World) (b : Nat) (base size : Int) (N : Nat) (m : Int → Int) (e : Ending) (w' : World) : Prop :=
  (∃ u, e = .returned u) ∧ Only (fun i => i = b) w w' ∧ ∃ g', w.heap.size ≤ g' ∧ RefMem w' b g' base size N m
theorem mem_set (w : World) (b g : Nat) (base size : Int) (N : Nat) (m : Int → Int) (x v : Int) (h : RefMem w b g base size N m) (hN : N < 1000000) (hx : In64 x) (h0 : 0 ≤ v) (h1 : v ≤ 255) :
    Calls Tryz.prog 111 #[.pointer (some ⟨b, 0, none⟩), .int .u64 x, .int .u8 v] w (MemSet w b base size (N + 1) fun y => if y = x then v else m y) := by
  obtain ⟨l, k1, k2, k3, k4⟩ := h
  refine (refSet_any w b g base size l x v k1 (by omega)).mono ?_
  rintro e w' ⟨hu, ho, g', hg, hr⟩
  exact ⟨hu, ho, g', hg, _, hr, fine_set k2 hx h0 h1, fun y => by rw [look_set, k3 y], by have := setL_len l x v; omega⟩

def okN (n : Int) : Bool := decide (n = 1 ∨ n = 2 ∨ n = 4 ∨ n = 8)
/-- P3.2: what Read tells. -/
def readV (base size : Int) (m : Int → Int) (x n : Int) : Int × Bool := if (okN n && hasZ base size x n) = true then (rdN m x n.toNat, true) else (0, false)

/-- What Read answers. -/
def ReadEnd (w : World) (p : Int × Bool) (e : Ending) (w' : World) : Prop := e = .returned (.tuple #[.int .u64 p.1, .bool p.2]) ∧ Below w.heap.size w w'

set_option maxHeartbeats 4000000 in
theorem mem_read (w : World) (b g : Nat) (base size : Int) (N : Nat) (m : Int → Int) (x n : Int) (h : RefMem w b g base size N m) (hf : Fits base size) (hx : In64 x) :
    Calls Tryz.prog 105 #[.pointer (some ⟨b, 0, none⟩), .int .u64 x, .int .i64 n] w (ReadEnd w (readV base size m x n)) := by
  have hm := h.bytey
  have HH := Lib.hid h
  have HX := Lib.hid hx
  have HF := Lib.hid hf
  have HM := Lib.hid hm
  by_cases ok : n = 1 ∨ n = 2 ∨ n = 4 ∨ n = 8
  · by_cases hh : hasZ base size x n = true
    · have hb := hh
      unfold hasZ at hb
      rw [decide_eq_true_eq] at hb
      have R : Hid (readV base size m x n = (rdN m x n.toNat, true)) := by
        refine Lib.hid ?_
        unfold readV okN; rw [decide_eq_true ok, hh]; rfl
      have xb : x + n ≤ 9223372036854775808 := by
        obtain ⟨f1, f2, f3, f4⟩ := hf; omega
      have x0 := hx.1
      clear h hm hf hx hb
      rcases ok with rfl | rfl | rfl | rfl
      · go_enter Tryz.func105, Tryz.ntmps105
        go_wp2_with fail
        refine (mem_has _ b g base size N m _ _ HH.out HF.out HX.out).mono ?_
        rintro e w1 ⟨rfl, hb1⟩
        have hr := HH.out.below hb1
        have HR := Lib.hid hr
        clear hr
        go_wp2_with fail
        go_loop [8, 9] (fun v i => ∃ k : Nat, k ≤ 1 ∧ i = .int .i64 ((k : Int) - 1) ∧ v = .int .u64 (rdN m (x + k) (1 - k))) (fun _ i => (intOf i + 1).toNat)
        case atStart => exact ⟨1, by omega, rfl, rfl⟩
        case round =>
          obtain ⟨k, hk, rfl, rfl⟩ := hrel
          cases k with
          | succ j =>
            have hv := rdN_7 HM.out (x + ((j + 1 : Nat) : Int)) (c := 1 - (j + 1)) (by omega)
            have hv1 := hv.1
            have hv2 := hv.2
            have hby := HM.out (x + j)
            have hby1 := hby.1
            have hby2 := hby.2
            have E : Hid (256 * rdN m (x + ((j + 1 : Nat) : Int)) (1 - (j + 1)) + m (x + j) = rdN m (x + j) (1 - j)) := by
              refine Lib.hid ?_
              rw [show 1 - j = (1 - (j + 1)) + 1 by omega]
              show _ = m (x + j) + 256 * rdN m (x + j + 1) (1 - (j + 1))
              rw [show x + ((j + 1 : Nat) : Int) = x + j + 1 by omega]; omega
            generalize rdN m (x + ((j + 1 : Nat) : Int)) (1 - (j + 1)) = y at *
            rw [show ((j + 1 : Nat) : Int) - 1 = (j : Int) by omega]
            clear hv hby hb1
            go_wp2_with (go_at_call 114; refine (mem_at _ b g base size N m _ HR.out).mono ?_; rintro e w' ⟨rfl, rfl⟩)
            go_round
            case rel => exact ⟨j, by omega, rfl, by rw [← E.out]⟩
            case measure => simp [intOf]
          | zero =>
            go_wp2
            go_ret2
            exact ⟨by rw [R.out]; exact ret_two (by simp) rfl, hb1⟩
      · go_enter Tryz.func105, Tryz.ntmps105
        go_wp2_with fail
        refine (mem_has _ b g base size N m _ _ HH.out HF.out HX.out).mono ?_
        rintro e w1 ⟨rfl, hb1⟩
        have hr := HH.out.below hb1
        have HR := Lib.hid hr
        clear hr
        go_wp2_with fail
        go_loop [8, 9] (fun v i => ∃ k : Nat, k ≤ 2 ∧ i = .int .i64 ((k : Int) - 1) ∧ v = .int .u64 (rdN m (x + k) (2 - k))) (fun _ i => (intOf i + 1).toNat)
        case atStart => exact ⟨2, by omega, rfl, rfl⟩
        case round =>
          obtain ⟨k, hk, rfl, rfl⟩ := hrel
          cases k with
          | succ j =>
            have hv := rdN_7 HM.out (x + ((j + 1 : Nat) : Int)) (c := 2 - (j + 1)) (by omega)
            have hv1 := hv.1
            have hv2 := hv.2
            have hby := HM.out (x + j)
            have hby1 := hby.1
            have hby2 := hby.2
            have E : Hid (256 * rdN m (x + ((j + 1 : Nat) : Int)) (2 - (j + 1)) + m (x + j) = rdN m (x + j) (2 - j)) := by
              refine Lib.hid ?_
              rw [show 2 - j = (2 - (j + 1)) + 1 by omega]
              show _ = m (x + j) + 256 * rdN m (x + j + 1) (2 - (j + 1))
              rw [show x + ((j + 1 : Nat) : Int) = x + j + 1 by omega]; omega
            generalize rdN m (x + ((j + 1 : Nat) : Int)) (2 - (j + 1)) = y at *
            rw [show ((j + 1 : Nat) : Int) - 1 = (j : Int) by omega]
            clear hv hby hb1
            go_wp2_with (go_at_call 114; refine (mem_at _ b g base size N m _ HR.out).mono ?_; rintro e w' ⟨rfl, rfl⟩)
            go_round
            case rel => exact ⟨j, by omega, rfl, by rw [← E.out]⟩
            case measure => simp [intOf]
          | zero =>
            go_wp2
            go_ret2
            exact ⟨by rw [R.out]; exact ret_two (by simp) rfl, hb1⟩
      · go_enter Tryz.func105, Tryz.ntmps105
        go_wp2_with fail
        refine (mem_has _ b g base size N m _ _ HH.out HF.out HX.out).mono ?_
        rintro e w1 ⟨rfl, hb1⟩
        have hr := HH.out.below hb1
        have HR := Lib.hid hr
        clear hr
        go_wp2_with fail
        go_loop [8, 9] (fun v i => ∃ k : Nat, k ≤ 4 ∧ i = .int .i64 ((k : Int) - 1) ∧ v = .int .u64 (rdN m (x + k) (4 - k))) (fun _ i => (intOf i + 1).toNat)
        case atStart => exact ⟨4, by omega, rfl, rfl⟩
        case round =>
          obtain ⟨k, hk, rfl, rfl⟩ := hrel
          cases k with
          | succ j =>
            have hv := rdN_7 HM.out (x + ((j + 1 : Nat) : Int)) (c := 4 - (j + 1)) (by omega)
            have hv1 := hv.1
            have hv2 := hv.2
            have hby := HM.out (x + j)
            have hby1 := hby.1
            have hby2 := hby.2
            have E : Hid (256 * rdN m (x + ((j + 1 : Nat) : Int)) (4 - (j + 1)) + m (x + j) = rdN m (x + j) (4 - j)) := by
              refine Lib.hid ?_
              rw [show 4 - j = (4 - (j + 1)) + 1 by omega]
              show _ = m (x + j) + 256 * rdN m (x + j + 1) (4 - (j + 1))
              rw [show x + ((j + 1 : Nat) : Int) = x + j + 1 by omega]; omega
            generalize rdN m (x + ((j + 1 : Nat) : Int)) (4 - (j + 1)) = y at *
            rw [show ((j + 1 : Nat) : Int) - 1 = (j : Int) by omega]
            clear hv hby hb1
            go_wp2_with (go_at_call 114; refine (mem_at _ b g base size N m _ HR.out).mono ?_; rintro e w' ⟨rfl, rfl⟩)
            go_round
            case rel => exact ⟨j, by omega, rfl, by rw [← E.out]⟩
            case measure => simp [intOf]
          | zero =>
            go_wp2
            go_ret2
            exact ⟨by rw [R.out]; exact ret_two (by simp) rfl, hb1⟩
      · go_enter Tryz.func105, Tryz.ntmps105
        go_wp2_with fail
        refine (mem_has _ b g base size N m _ _ HH.out HF.out HX.out).mono ?_
        rintro e w1 ⟨rfl, hb1⟩
        have hr := HH.out.below hb1
        have HR := Lib.hid hr
        clear hr
        go_wp2_with fail
        go_loop [8, 9] (fun v i => ∃ k : Nat, k ≤ 8 ∧ i = .int .i64 ((k : Int) - 1) ∧ v = .int .u64 (rdN m (x + k) (8 - k))) (fun _ i => (intOf i + 1).toNat)
        case atStart => exact ⟨8, by omega, rfl, rfl⟩
        case round =>
          obtain ⟨k, hk, rfl, rfl⟩ := hrel
          cases k with
          | succ j =>
            have hv := rdN_7 HM.out (x + ((j + 1 : Nat) : Int)) (c := 8 - (j + 1)) (by omega)
            have hv1 := hv.1
            have hv2 := hv.2
            have hby := HM.out (x + j)
            have hby1 := hby.1
            have hby2 := hby.2
            have E : Hid (256 * rdN m (x + ((j + 1 : Nat) : Int)) (8 - (j + 1)) + m (x + j) = rdN m (x + j) (8 - j)) := by
              refine Lib.hid ?_
              rw [show 8 - j = (8 - (j + 1)) + 1 by omega]
              show _ = m (x + j) + 256 * rdN m (x + j + 1) (8 - (j + 1))
              rw [show x + ((j + 1 : Nat) : Int) = x + j + 1 by omega]; omega
            generalize rdN m (x + ((j + 1 : Nat) : Int)) (8 - (j + 1)) = y at *
            rw [show ((j + 1 : Nat) : Int) - 1 = (j : Int) by omega]
            clear hv hby hb1
            go_wp2_with (go_at_call 114; refine (mem_at _ b g base size N m _ HR.out).mono ?_; rintro e w' ⟨rfl, rfl⟩)
            go_round
            case rel => exact ⟨j, by omega, rfl, by rw [← E.out]⟩
            case measure => simp [intOf]
          | zero =>
            go_wp2
            go_ret2
            exact ⟨by rw [R.out]; exact ret_two (by simp) rfl, hb1⟩
    · have hh2 : hasZ base size x n = false := by simpa using hh
      have R : Hid (readV base size m x n = (0, false)) := by
        refine Lib.hid ?_
        unfold readV; rw [hh2, Bool.and_false]; rfl
      clear h hm hf hx hh
      rcases ok with rfl | rfl | rfl | rfl
      all_goals
        go_enter Tryz.func105, Tryz.ntmps105
        go_wp2_with fail
        refine (mem_has _ b g base size N m _ _ HH.out HF.out HX.out).mono ?_
        rintro e w1 ⟨rfl, hb1⟩
        go_wp2
        go_ret2
        exact ⟨by rw [R.out]; rfl, hb1⟩
  · have R : Hid (readV base size m x n = (0, false)) := by
      refine Lib.hid ?_
      unfold readV okN; rw [decide_eq_false ok]; rfl
    have n1 : (n != 1) = true := by simp; omega
    have n2 : (n != 2) = true := by simp; omega
    have n4 : (n != 4) = true := by simp; omega
    have n8 : (n != 8) = true := by simp; omega
    clear h hm hf hx ok
    go_enter Tryz.func105, Tryz.ntmps105
    go_wp2
    go_ret2
    exact ⟨by rw [R.out]; rfl, Below.refl _ _⟩

end Go.Proofs.YtbcnkhfpogglmaaGreatDoor.M3

namespace Go.Proofs.YtbcnkhfpogglmaaGreatDoor.M3
open Go.RowKit
set_option linter.unusedVariables false
set_option maxRecDepth 100000

theorem RefMem.congr {w : World} {b g : Nat} {base size : Int} {N N' : Nat} {m m' : Int → Int} (h : RefMem w b g base size N m) (e : ∀ y, m y = m' y) (hN : N ≤ N') : RefMem w b g base size N' m' := by
  obtain ⟨l, h1, h2, h3, h4⟩ := h; exact ⟨l, h1, h2, fun y => (h3 y).trans (e y), by omega⟩

/-- P3.2: memory behind a Write. -/
def writeM (base size : Int) (m : Int → Int) (x n v : Int) : Int → Int := if (okN n && hasZ base size x n) = true then wrN m x v n.toNat else m

/-- What a call leaves that may turn the object: another list, new or the old one. -/
def MemEnd (w : World) (b g : Nat) (base size : Int) (N : Nat) (m : Int → Int) (r : Bool) (e : Ending) (w' : World) : Prop :=
  e = .returned (.bool r) ∧ Only (fun i => i = b) w w' ∧ ∃ g', (g' = g ∨ w.heap.size ≤ g') ∧ RefMem w' b g' base size N m

/-- In the loop: what is still to be written. -/
def Writing (w wr : World) (b g : Nat) (base size : Int) (N : Nat) (m : Int → Int) (x v : Int) (n k : Nat) (vv : Int) : Prop :=
  In64 vv ∧ Only (fun i => i = b) w wr ∧ ∃ g' m', (g' = g ∨ w.heap.size ≤ g') ∧ RefMem wr b g' base size (N + k) m' ∧ ∀ y, wrN m' (x + k) vv (n - k) y = wrN m x v n y

theorem Writing.next {e : Ending} {w wr w' : World} {b g : Nat} {base size : Int} {N : Nat} {m m1 : Int → Int} {x v : Int} {n k : Nat} {vv : Int} (h : In64 vv) (ho : Only (fun i => i = b) w wr) (hk : k < n)
    (hy : ∀ y, wrN m1 (x + k) vv (n - k) y = wrN m x v n y) (hs : MemSet wr b base size (N + k + 1) (fun y => if y = x + k then vv % 256 else m1 y) e w') : Writing w w' b g base size N m x v n (k + 1) (vv / 256) := by
  obtain ⟨_, ho2, g', hg, hr⟩ := hs
  refine ⟨by unfold In64 at *; omega, ho.trans ho2, g', _, .inr (Nat.le_trans ho.size hg), hr, fun y => ?_⟩
  rw [← hy y, show x + ((k + 1 : Nat) : Int) = x + k + 1 by omega, wrN_step, show n - (k + 1) + 1 = n - k by omega]

set_option maxHeartbeats 4000000 in
theorem mem_write (w : World) (b g : Nat) (base size : Int) (N : Nat) (m : Int → Int) (x n v : Int) (h : RefMem w b g base size N m) (hf : Fits base size) (hx : In64 x) (hv : In64 v) (hN : N < 900000) :
    Calls Tryz.prog 61 #[.pointer (some ⟨b, 0, none⟩), .int .u64 x, .int .i64 n, .int .u64 v] w (MemEnd w b g base size (N + 8) (writeM base size m x n v) (okN n && hasZ base size x n)) := by
  have HH := Lib.hid h
  have HX := Lib.hid hx
  have HF := Lib.hid hf
  have HV := Lib.hid hv
  by_cases ok : n = 1 ∨ n = 2 ∨ n = 4 ∨ n = 8
  · by_cases hh : hasZ base size x n = true
    · have hb := hh
      unfold hasZ at hb
      rw [decide_eq_true_eq] at hb
      have R : Hid (writeM base size m x n v = wrN m x v n.toNat ∧ (okN n && hasZ base size x n) = true) := by
        refine Lib.hid ?_
        have : (okN n && hasZ base size x n) = true := by unfold okN; rw [decide_eq_true ok, hh]; rfl
        exact ⟨by unfold writeM; rw [if_pos this], this⟩
      have xb : x + n ≤ 9223372036854775808 := by
        obtain ⟨f1, f2, f3, f4⟩ := hf; omega
      have x0 := hx.1
      clear h hf hx hb hv
      rcases ok with rfl | rfl | rfl | rfl
      · go_enter Tryz.func61, Tryz.ntmps61
        go_wp2_with fail
        refine (mem_has _ b g base size N m _ _ HH.out HF.out HX.out).mono ?_
        rintro e w1 ⟨rfl, hb1⟩
        have W0 : Writing w w1 b g base size N m x v 1 0 v := ⟨HV.out, Only.of_below _ hb1, g, m, .inl rfl, HH.out.below hb1, fun y => by rw [show x + ((0 : Nat) : Int) = x by omega]⟩
        go_wp2_with fail
        go_loopw [3, 9] (fun u i wr => ∃ (k : Nat) (vv : Int), k ≤ 1 ∧ i = .int .i64 k ∧ u = .int .u64 vv ∧ Writing w wr b g base size N m x v 1 k vv) (fun _ i _ => 1 - (intOf i).toNat)
        case atStart => exact ⟨0, v, by omega, rfl, rfl, W0⟩
        case round =>
          clear W0 hb1
          obtain ⟨k, vv, hk, rfl, rfl, hW⟩ := hrel
          by_cases hlt : k < 1
          · obtain ⟨hvv, ho, g1, m1, hg1, hr1, hy⟩ := hW
            have v0 := hvv.1
            have HR := Lib.hid hr1
            have HVV := Lib.hid hvv
            have HY := Lib.hid hy
            have HO := Lib.hid ho
            have HL := Lib.hid hlt
            have m1b : 0 ≤ vv % 256 := by omega
            have m2b : vv % 256 ≤ 255 := by omega
            have mw : IntKind.u8.wrap (vv % 256) = vv % 256 := by simp [IntKind.wrap, IntKind.bits, IntKind.signed]
            have IX := Lib.hid (show In64 (x + k) from ⟨by omega, by omega⟩)
            have QE : Hid (IntKind.u64.wrap (vv.tdiv 256) = vv / 256) := by
              refine Lib.hid ?_
              have := hvv.2
              rw [IntKind.wrap_u64, Int.tdiv_eq_ediv_of_nonneg v0]; omega
            clear hr1 hvv hy ho hg1
            go_wp2_with fail
            refine (mem_set _ b g1 base size (N + k) m1 _ _ HR.out (by omega) IX.out (by omega) (by omega)).mono ?_
            rintro e w2 hs
            have HS := Lib.hid (Writing.next (g := g) HVV.out HO.out HL.out HY.out hs)
            obtain ⟨⟨u, rfl⟩, _⟩ := hs
            go_wp2
            go_roundw
            case rel => exact ⟨k + 1, _, by omega, by go_num, rfl, by rw [QE.out]; exact HS.out⟩
            case measure => simp [intOf]; omega
          · obtain rfl : k = 1 := by omega
            obtain ⟨_, ho, g1, m1, hg1, hr1, hy⟩ := hW
            have HE := Lib.hid hy
            have HR := Lib.hid hr1
            clear hy hr1
            go_wp2
            go_ret
            exact ⟨by rw [R.out.2]; rfl, ho, g1, hg1, HR.out.congr (fun y => by rw [R.out.1]; exact HE.out y) (by omega)⟩
      · go_enter Tryz.func61, Tryz.ntmps61
        go_wp2_with fail
        refine (mem_has _ b g base size N m _ _ HH.out HF.out HX.out).mono ?_
        rintro e w1 ⟨rfl, hb1⟩
        have W0 : Writing w w1 b g base size N m x v 2 0 v := ⟨HV.out, Only.of_below _ hb1, g, m, .inl rfl, HH.out.below hb1, fun y => by rw [show x + ((0 : Nat) : Int) = x by omega]⟩
        go_wp2_with fail
        go_loopw [3, 9] (fun u i wr => ∃ (k : Nat) (vv : Int), k ≤ 2 ∧ i = .int .i64 k ∧ u = .int .u64 vv ∧ Writing w wr b g base size N m x v 2 k vv) (fun _ i _ => 2 - (intOf i).toNat)
        case atStart => exact ⟨0, v, by omega, rfl, rfl, W0⟩
        case round =>
          clear W0 hb1
          obtain ⟨k, vv, hk, rfl, rfl, hW⟩ := hrel
          by_cases hlt : k < 2
          · obtain ⟨hvv, ho, g1, m1, hg1, hr1, hy⟩ := hW
            have v0 := hvv.1
            have HR := Lib.hid hr1
            have HVV := Lib.hid hvv
            have HY := Lib.hid hy
            have HO := Lib.hid ho
            have HL := Lib.hid hlt
            have m1b : 0 ≤ vv % 256 := by omega
            have m2b : vv % 256 ≤ 255 := by omega
            have mw : IntKind.u8.wrap (vv % 256) = vv % 256 := by simp [IntKind.wrap, IntKind.bits, IntKind.signed]
            have IX := Lib.hid (show In64 (x + k) from ⟨by omega, by omega⟩)
            have QE : Hid (IntKind.u64.wrap (vv.tdiv 256) = vv / 256) := by
              refine Lib.hid ?_
              have := hvv.2
              rw [IntKind.wrap_u64, Int.tdiv_eq_ediv_of_nonneg v0]; omega
            clear hr1 hvv hy ho hg1
            go_wp2_with fail
            refine (mem_set _ b g1 base size (N + k) m1 _ _ HR.out (by omega) IX.out (by omega) (by omega)).mono ?_
            rintro e w2 hs
            have HS := Lib.hid (Writing.next (g := g) HVV.out HO.out HL.out HY.out hs)
            obtain ⟨⟨u, rfl⟩, _⟩ := hs
            go_wp2
            go_roundw
            case rel => exact ⟨k + 1, _, by omega, by go_num, rfl, by rw [QE.out]; exact HS.out⟩
            case measure => simp [intOf]; omega
          · obtain rfl : k = 2 := by omega
            obtain ⟨_, ho, g1, m1, hg1, hr1, hy⟩ := hW
            have HE := Lib.hid hy
            have HR := Lib.hid hr1
            clear hy hr1
            go_wp2
            go_ret
            exact ⟨by rw [R.out.2]; rfl, ho, g1, hg1, HR.out.congr (fun y => by rw [R.out.1]; exact HE.out y) (by omega)⟩
      · go_enter Tryz.func61, Tryz.ntmps61
        go_wp2_with fail
        refine (mem_has _ b g base size N m _ _ HH.out HF.out HX.out).mono ?_
        rintro e w1 ⟨rfl, hb1⟩
        have W0 : Writing w w1 b g base size N m x v 4 0 v := ⟨HV.out, Only.of_below _ hb1, g, m, .inl rfl, HH.out.below hb1, fun y => by rw [show x + ((0 : Nat) : Int) = x by omega]⟩
        go_wp2_with fail
        go_loopw [3, 9] (fun u i wr => ∃ (k : Nat) (vv : Int), k ≤ 4 ∧ i = .int .i64 k ∧ u = .int .u64 vv ∧ Writing w wr b g base size N m x v 4 k vv) (fun _ i _ => 4 - (intOf i).toNat)
        case atStart => exact ⟨0, v, by omega, rfl, rfl, W0⟩
        case round =>
          clear W0 hb1
          obtain ⟨k, vv, hk, rfl, rfl, hW⟩ := hrel
          by_cases hlt : k < 4
          · obtain ⟨hvv, ho, g1, m1, hg1, hr1, hy⟩ := hW
            have v0 := hvv.1
            have HR := Lib.hid hr1
            have HVV := Lib.hid hvv
            have HY := Lib.hid hy
            have HO := Lib.hid ho
            have HL := Lib.hid hlt
            have m1b : 0 ≤ vv % 256 := by omega
            have m2b : vv % 256 ≤ 255 := by omega
            have mw : IntKind.u8.wrap (vv % 256) = vv % 256 := by simp [IntKind.wrap, IntKind.bits, IntKind.signed]
            have IX := Lib.hid (show In64 (x + k) from ⟨by omega, by omega⟩)
            have QE : Hid (IntKind.u64.wrap (vv.tdiv 256) = vv / 256) := by
              refine Lib.hid ?_
              have := hvv.2
              rw [IntKind.wrap_u64, Int.tdiv_eq_ediv_of_nonneg v0]; omega
            clear hr1 hvv hy ho hg1
            go_wp2_with fail
            refine (mem_set _ b g1 base size (N + k) m1 _ _ HR.out (by omega) IX.out (by omega) (by omega)).mono ?_
            rintro e w2 hs
            have HS := Lib.hid (Writing.next (g := g) HVV.out HO.out HL.out HY.out hs)
            obtain ⟨⟨u, rfl⟩, _⟩ := hs
            go_wp2
            go_roundw
            case rel => exact ⟨k + 1, _, by omega, by go_num, rfl, by rw [QE.out]; exact HS.out⟩
            case measure => simp [intOf]; omega
          · obtain rfl : k = 4 := by omega
            obtain ⟨_, ho, g1, m1, hg1, hr1, hy⟩ := hW
            have HE := Lib.hid hy
            have HR := Lib.hid hr1
            clear hy hr1
            go_wp2
            go_ret
            exact ⟨by rw [R.out.2]; rfl, ho, g1, hg1, HR.out.congr (fun y => by rw [R.out.1]; exact HE.out y) (by omega)⟩
      · go_enter Tryz.func61, Tryz.ntmps61
        go_wp2_with fail
        refine (mem_has _ b g base size N m _ _ HH.out HF.out HX.out).mono ?_
        rintro e w1 ⟨rfl, hb1⟩
        have W0 : Writing w w1 b g base size N m x v 8 0 v := ⟨HV.out, Only.of_below _ hb1, g, m, .inl rfl, HH.out.below hb1, fun y => by rw [show x + ((0 : Nat) : Int) = x by omega]⟩
        go_wp2_with fail
        go_loopw [3, 9] (fun u i wr => ∃ (k : Nat) (vv : Int), k ≤ 8 ∧ i = .int .i64 k ∧ u = .int .u64 vv ∧ Writing w wr b g base size N m x v 8 k vv) (fun _ i _ => 8 - (intOf i).toNat)
        case atStart => exact ⟨0, v, by omega, rfl, rfl, W0⟩
        case round =>
          clear W0 hb1
          obtain ⟨k, vv, hk, rfl, rfl, hW⟩ := hrel
          by_cases hlt : k < 8
          · obtain ⟨hvv, ho, g1, m1, hg1, hr1, hy⟩ := hW
            have v0 := hvv.1
            have HR := Lib.hid hr1
            have HVV := Lib.hid hvv
            have HY := Lib.hid hy
            have HO := Lib.hid ho
            have HL := Lib.hid hlt
            have m1b : 0 ≤ vv % 256 := by omega
            have m2b : vv % 256 ≤ 255 := by omega
            have mw : IntKind.u8.wrap (vv % 256) = vv % 256 := by simp [IntKind.wrap, IntKind.bits, IntKind.signed]
            have IX := Lib.hid (show In64 (x + k) from ⟨by omega, by omega⟩)
            have QE : Hid (IntKind.u64.wrap (vv.tdiv 256) = vv / 256) := by
              refine Lib.hid ?_
              have := hvv.2
              rw [IntKind.wrap_u64, Int.tdiv_eq_ediv_of_nonneg v0]; omega
            clear hr1 hvv hy ho hg1
            go_wp2_with fail
            refine (mem_set _ b g1 base size (N + k) m1 _ _ HR.out (by omega) IX.out (by omega) (by omega)).mono ?_
            rintro e w2 hs
            have HS := Lib.hid (Writing.next (g := g) HVV.out HO.out HL.out HY.out hs)
            obtain ⟨⟨u, rfl⟩, _⟩ := hs
            go_wp2
            go_roundw
            case rel => exact ⟨k + 1, _, by omega, by go_num, rfl, by rw [QE.out]; exact HS.out⟩
            case measure => simp [intOf]; omega
          · obtain rfl : k = 8 := by omega
            obtain ⟨_, ho, g1, m1, hg1, hr1, hy⟩ := hW
            have HE := Lib.hid hy
            have HR := Lib.hid hr1
            clear hy hr1
            go_wp2
            go_ret
            exact ⟨by rw [R.out.2]; rfl, ho, g1, hg1, HR.out.congr (fun y => by rw [R.out.1]; exact HE.out y) (by omega)⟩
    · have hh2 : hasZ base size x n = false := by simpa using hh
      have R : Hid (writeM base size m x n v = m ∧ (okN n && hasZ base size x n) = false) := by
        refine Lib.hid ?_
        have : (okN n && hasZ base size x n) = false := by rw [hh2, Bool.and_false]
        exact ⟨by unfold writeM; rw [this]; rfl, this⟩
      clear h hf hx hh hv
      rcases ok with rfl | rfl | rfl | rfl
      all_goals
        go_enter Tryz.func61, Tryz.ntmps61
        go_wp2_with fail
        refine (mem_has _ b g base size N m _ _ HH.out HF.out HX.out).mono ?_
        rintro e w1 ⟨rfl, hb1⟩
        go_wp2
        go_ret
        exact ⟨by rw [R.out.2]; rfl, Only.of_below _ hb1, g, .inl rfl, (HH.out.below hb1).congr (fun y => by rw [R.out.1]) (by omega)⟩
  · have R : Hid (writeM base size m x n v = m ∧ (okN n && hasZ base size x n) = false) := by
      refine Lib.hid ?_
      have : (okN n && hasZ base size x n) = false := by unfold okN; rw [decide_eq_false ok, Bool.false_and]
      exact ⟨by unfold writeM; rw [this]; rfl, this⟩
    have n1 : (n != 1) = true := by simp; omega
    have n2 : (n != 2) = true := by simp; omega
    have n4 : (n != 4) = true := by simp; omega
    have n8 : (n != 8) = true := by simp; omega
    clear h hf hx ok hv
    go_enter Tryz.func61, Tryz.ntmps61
    go_wp2
    go_ret
    exact ⟨by rw [R.out.2]; rfl, Only.refl _ _, g, .inl rfl, HH.out.congr (fun y => by rw [R.out.1]) (by omega)⟩

end Go.Proofs.YtbcnkhfpogglmaaGreatDoor.M3

namespace Go.Proofs.YtbcnkhfpogglmaaGreatDoor.M3
open Go.RowKit
set_option linter.unusedVariables false
set_option maxRecDepth 100000

/-- The slice value reads as xs, out of block g. -/
def ReadsIn (k : IntKind) (g : Nat) (w : World) (v : Value) (xs : List Int) : Prop :=
  ∃ a c, v = .slice a xs.length c ∧ xs.length ≤ maxLen ∧ (xs = [] ∨ ∃ off, a = some ⟨g, off, none⟩ ∧ g < w.heap.size ∧ ∀ i, i < xs.length → w.cell? ⟨g, off + i, none⟩ = some (.int k (xs.getD i 0)))
theorem ReadsIn.keeps {S : Nat → Prop} {k : IntKind} {g : Nat} {w w' : World} {v : Value} {xs : List Int} (h : ReadsIn k g w v xs) (o : Only S w w') (hg : ¬ S g) : ReadsIn k g w' v xs := by
  obtain ⟨a, c, hv, hm, h⟩ := h
  refine ⟨a, c, hv, hm, ?_⟩
  rcases h with h | ⟨off, ha, hlt, hc⟩
  · exact .inl h
  · exact .inr ⟨off, ha, Nat.lt_of_lt_of_le hlt o.size, fun i hi => (World.cell?_of_block (w := w) (o.block g hlt hg)).trans (hc i hi)⟩
theorem ReadsIn.below {k : IntKind} {g : Nat} {w w' : World} {v : Value} {xs : List Int} (h : ReadsIn k g w v xs) (o : Below w.heap.size w w') : ReadsIn k g w' v xs :=
  h.keeps (Only.of_below (fun _ => False) o) id
theorem ReadsIn.own {k : IntKind} {base : Nat} {e : TypeId} {w : World} {v : Value} {xs : List Int} (h : w.ownsRow base e 1 v xs.length (xs.map (Value.int k))) : ∃ g, (base ≤ g ∨ xs = []) ∧ ReadsIn k g w v xs := by
  rcases h.2 with ⟨hv, h0⟩ | ⟨g, cap, cur, hv, hb, hg, hn, hc, _, _⟩
  · have : xs = [] := List.eq_nil_of_length_eq_zero h0
    subst this
    exact ⟨0, .inr rfl, none, 0, hv, Nat.zero_le _, .inl rfl⟩
  · subst hv
    refine ⟨g, .inl hb, _, cap, rfl, by omega, .inr ⟨0, rfl, (Array.getElem?_eq_some_iff.1 hg).1, fun i hi => ?_⟩⟩
    have := h.cells (g := g) rfl i (.int k (xs.getD i 0)) (by simp [List.getD, hi])
    rwa [add_none] at this

/-- Memory behind bytes were put at x. -/
def putF (m : Int → Int) (x : Int) : List Int → Int → Int
  | [], y => m y
  | v :: vs, y => putF (fun z => if z = x then v else m z) (x + 1) vs y
def putM (base size : Int) (m : Int → Int) (x : Int) (xs : List Int) : Int → Int := if hasZ base size x xs.length = true then putF m x xs else m
theorem putF_out {m : Int → Int} {x : Int} {xs : List Int} {y : Int} (h : y < x ∨ x + xs.length ≤ y) : putF m x xs y = m y := by
  induction xs generalizing m x with
  | nil => rfl
  | cons v vs ih =>
    simp only [List.length_cons] at h
    unfold putF
    rw [ih (by omega)]
    show (if y = x then v else m y) = m y
    rw [if_neg (by omega)]
theorem putF_at {m : Int → Int} {x : Int} {xs : List Int} {i : Nat} (h : i < xs.length) : putF m x xs (x + i) = xs.getD i 0 := by
  induction xs generalizing m x i with
  | nil => simp at h
  | cons v vs ih =>
    unfold putF
    cases i with
    | zero => rw [putF_out (by omega)]; simp
    | succ i =>
      rw [show x + ((i + 1 : Nat) : Int) = x + 1 + i by omega, ih (by simpa using h)]; simp
def Bytes255 (xs : List Int) : Prop := ∀ i, i < xs.length → 0 ≤ xs.getD i 0 ∧ xs.getD i 0 ≤ 255
theorem drop_getD {xs : List Int} {k : Nat} (h : k < xs.length) : xs.drop k = xs.getD k 0 :: xs.drop (k + 1) := by
  rw [List.drop_eq_getElem_cons h]; simp [List.getD, h]

/-- In the loop: what is still to be put. -/
def Putting (w wr : World) (b g : Nat) (base size : Int) (N : Nat) (m : Int → Int) (x : Int) (xs : List Int) (k : Nat) : Prop :=
  Only (fun i => i = b) w wr ∧ ∃ g' m', (g' = g ∨ w.heap.size ≤ g') ∧ RefMem wr b g' base size (N + k) m' ∧ ∀ y, putF m' (x + k) (xs.drop k) y = putF m x xs y
theorem Putting.next {e : Ending} {w wr w' : World} {b g : Nat} {base size : Int} {N : Nat} {m m1 : Int → Int} {x : Int} {xs : List Int} {k : Nat} (ho : Only (fun i => i = b) w wr) (hk : k < xs.length)
    (hy : ∀ y, putF m1 (x + k) (xs.drop k) y = putF m x xs y) (hs : MemSet wr b base size (N + k + 1) (fun y => if y = x + k then xs.getD k 0 else m1 y) e w') : Putting w w' b g base size N m x xs (k + 1) := by
  obtain ⟨_, ho2, g', hg, hr⟩ := hs
  refine ⟨ho.trans ho2, g', _, .inr (Nat.le_trans ho.size hg), hr, fun y => ?_⟩
  rw [← hy y, drop_getD hk, show x + ((k + 1 : Nat) : Int) = x + k + 1 by omega]; rfl

end Go.Proofs.YtbcnkhfpogglmaaGreatDoor.M3

namespace Go.Proofs.YtbcnkhfpogglmaaGreatDoor.M3
open Go.RowKit
set_option linter.unusedVariables false
set_option maxRecDepth 100000

/-- The n bytes from x on. -/
def bytesL (m : Int → Int) (x : Int) (n : Nat) : List Int := (List.range n).map fun i : Nat => m (x + (i : Int))
theorem bytesL_len (m : Int → Int) (x : Int) (n : Nat) : (bytesL m x n).length = n := by unfold bytesL; simp
theorem bytesL_get (m : Int → Int) (x : Int) (n i : Nat) (h : i < n) : (bytesL m x n).getD i 0 = m (x + i) := by unfold bytesL; simp [List.getD, h]
def bytesV (base size : Int) (m : Int → Int) (x n : Int) : List Int := if hasZ base size x n = true then bytesL m x n.toNat else []

/-- What Bytes answers. -/
def BytesEnd (w : World) (xs : List Int) (r : Bool) (e : Ending) (w' : World) : Prop :=
  Below w.heap.size w w' ∧ ∃ a n c, e = .returned (.tuple #[.slice a n c, .bool r]) ∧ w'.ownsRow w.heap.size 5 1 (.slice a n c) xs.length (xs.map (Value.int .u8))

theorem info_u8 : (Tryz.prog.info? 5).map (fun i => (i.zero, i.size, i.bytes)) = some (some (.int .u8 0), 1, 1) := by kernel_rfl

end Go.Proofs.YtbcnkhfpogglmaaGreatDoor.M3

namespace Go.Proofs.YtbcnkhfpogglmaaGreatDoor.M3
open Go.RowKit
set_option linter.unusedVariables false
set_option maxRecDepth 100000

/-- P3.1: which memories there are. -/
def newOk (base size : Int) : Bool := decide (base % 4096 = 0 ∧ size % 4096 = 0 ∧ 4096 ≤ size ∧ size ≤ 67108864 ∧ base ≤ 9223372036854775808 - size)
theorem newOk_fits {base size : Int} (hb : In64 base) (h : newOk base size = true) : Fits base size := by
  unfold newOk at h; rw [decide_eq_true_eq] at h
  have := hb.1
  exact ⟨this, by omega, by omega, by omega⟩

/-- What New answers. -/
def NewEnd (w : World) (base size : Int) (ok : Bool) (e : Ending) (w' : World) : Prop :=
  (ok = false ∧ e = .returned (.tuple #[.pointer none, .int .i64 1]) ∧ w = w') ∨
  (ok = true ∧ e = .returned (.tuple #[.pointer (some ⟨w.heap.size, 0, none⟩), .int .i64 0]) ∧ Below w.heap.size w w' ∧ RefMem w' w.heap.size (w.heap.size + 1) base size 0 fun _ => 0)

set_option maxHeartbeats 1000000 in
theorem refNew_any (base size : Int) (hb : In64 base) (hs : In64 size) (w : World) :
    Calls Tryz.prog 52 #[.int .u64 base, .int .u64 size] w (NewEnd w base size (newOk base size)) := by
  have b0 := hb.1
  have s0 := hs.1
  by_cases h : newOk base size = true
  · have h' := h
    unfold newOk at h'; rw [decide_eq_true_eq] at h'
    obtain ⟨h1, h2, h3, h4, h5⟩ := h'
    have k1 : (base % 4096 != 0) = false := by simpa using h1
    have k2 : (size % 4096 != 0) = false := by simpa using h2
    have HE : Hid (RefMem (w.alloc (.cells #[.int .u64 base, .int .u64 size, .slice none 0 0] 144)) w.heap.size (w.heap.size + 1) base size 0 fun _ => 0) :=
      ⟨[], ⟨none, 0, heap_alloc_new w _, by simp, .inl rfl⟩, ⟨by simp, by simp⟩, fun _ => rfl, by simp⟩
    have HH := Lib.hid h
    clear h1 h2 h hb hs
    go_enter Tryz.func52, Tryz.ntmps52
    go_wp2
    go_ret2
    exact .inr ⟨HH.out, rfl, (Below.refl _ _).alloc (Nat.le_refl _) _, HE.out⟩
  · have hh : newOk base size = false := by simpa using h
    have HH := Lib.hid hh
    unfold newOk at hh; rw [decide_eq_false_iff_not] at hh
    by_cases h1 : base % 4096 = 0
    · have k1 : (base % 4096 != 0) = false := by simpa using h1
      by_cases h2 : size % 4096 = 0
      · have k2 : (size % 4096 != 0) = false := by simpa using h2
        by_cases h3 : size < 4096
        · clear hh h h1 h2 hb hs
          go_enter Tryz.func52, Tryz.ntmps52
          go_wp2
          go_ret2
          exact .inl ⟨HH.out, rfl, rfl⟩
        · by_cases h4 : 67108864 < size
          · clear hh h h1 h2 hb hs
            go_enter Tryz.func52, Tryz.ntmps52
            go_wp2
            go_ret2
            exact .inl ⟨HH.out, rfl, rfl⟩
          · have h5 : 9223372036854775808 - size < base := by omega
            clear hh h h1 h2 hb hs
            go_enter Tryz.func52, Tryz.ntmps52
            go_wp2
            go_ret2
            exact .inl ⟨HH.out, rfl, rfl⟩
      · have k2 : (size % 4096 != 0) = true := by simpa using h2
        clear hh h h1 h2 hb hs
        go_enter Tryz.func52, Tryz.ntmps52
        go_wp2
        go_ret2
        exact .inl ⟨HH.out, rfl, rfl⟩
    · have k1 : (base % 4096 != 0) = true := by simpa using h1
      clear hh h h1 hb hs
      go_enter Tryz.func52, Tryz.ntmps52
      go_wp2
      go_ret2
      exact .inl ⟨HH.out, rfl, rfl⟩

end Go.Proofs.YtbcnkhfpogglmaaGreatDoor.M3

namespace Go.Proofs.YtbcnkhfpogglmaaGreatDoor.M3
open Go.RowKit
set_option linter.unusedVariables false
set_option maxRecDepth 100000

/-- An append whose run is known, at a step of a region that draws. -/
theorem step_append_run {P : Program} {w : World} {ops : Array Oper} {o : Oper} {a : Act} {K : Act → World → Prop} {Q : Exit → Act → World → Prop} {E : Prop} (hgd : o.guard = none) (s x : Operand) (t : TypeId)
    (ho : o.op = .call { callee := .builtin .append, args := #[s, x], argTypes := #[t, t] }) (v v2 v' : Value) (w' : World) (hs : a.eval s = v) (hx : a.eval x = v2)
    (hr : (Builtin.append_ #[t, t] o.type #[v, v2]).run P w = .ok v' w') (h : K (a.put o.dst v') w') :
    if Region.wanted o (yielded ops a.tmps) = true then Oper.wp P o a w K Q else E := by
  have hw : Region.wanted o (yielded ops a.tmps) = true := by simp [Region.wanted, hgd]
  rw [if_pos hw]
  exact wp_append_run s x t ho v v2 v' w' hs hx hr h

/-- What Twin answers. -/
def TwinEnd (w : World) (base size : Int) (N : Nat) (m : Int → Int) (e : Ending) (w' : World) : Prop :=
  Below w.heap.size w w' ∧ ∃ b g, e = .returned (.pointer (some ⟨b, 0, none⟩)) ∧ w.heap.size ≤ b ∧ w.heap.size ≤ g ∧ RefMem w' b g base size N m

end Go.Proofs.YtbcnkhfpogglmaaGreatDoor.M3

namespace Go.Proofs.YtbcnkhfpogglmaaGreatDoor.M3
open Go.RowKit
set_option linter.unusedVariables false
set_option maxRecDepth 100000

theorem look_cons (d : Int × Int) (l : List (Int × Int)) (x : Int) : look (d :: l) x = if d.1 = x then d.2 else look l x := by
  unfold look
  by_cases e : d.1 = x
  · rw [if_pos e]; simp [e]
  · rw [if_neg e]; simp [e]
theorem look_of_mem {l : List (Int × Int)} (h : Fine l) {c : Int × Int} (hc : c ∈ l) : look l c.1 = c.2 := by
  have hn := h.2
  clear h
  induction l with
  | nil => simp at hc
  | cons d l ih =>
    rw [look_cons]
    simp only [List.map_cons, List.nodup_cons] at hn
    rcases List.mem_cons.1 hc with rfl | hc
    · rw [if_pos rfl]
    · rw [if_neg (fun e => hn.1 (by rw [e]; exact List.mem_map.2 ⟨c, hc, rfl⟩))]
      exact ih hc hn.2
theorem sub_len {l1 l2 : List Int} (h : l1.Nodup) (hs : ∀ x ∈ l1, x ∈ l2) : l1.length ≤ l2.length := by
  induction l1 generalizing l2 with
  | nil => simp
  | cons a l ih =>
    simp only [List.nodup_cons] at h
    have ha := hs a (by simp)
    have h1 := ih (l2 := l2.erase a) h.2 (fun x hx => (List.mem_erase_of_ne (fun e => h.1 (by rw [← e]; exact hx))).2 (hs x (by simp [hx])))
    rw [List.length_erase_of_mem ha] at h1
    have h2 := List.length_pos_of_mem ha
    simp; omega
theorem sub_all {l1 l2 : List Int} (h : l1.Nodup) (hs : ∀ x ∈ l1, x ∈ l2) (hl : l2.length ≤ l1.length) : ∀ x ∈ l2, x ∈ l1 := by
  intro x hx
  by_cases c : x ∈ l1
  · exact c
  · have := sub_len (l1 := x :: l1) (l2 := l2) (by simp [c, h]) (by intro y hy; rcases List.mem_cons.1 hy with rfl | hy; exact hx; exact hs y hy)
    simp at this; omega
theorem look_key {l : List (Int × Int)} {x : Int} (h : ¬ look l x = 0) : x ∈ l.map (·.1) := by
  rcases look_mem (l := l) (x := x) with e | ⟨c, hc, e, _⟩
  · exact absurd e h
  · exact List.mem_map.2 ⟨c, hc, e⟩
theorem look_nokey {l : List (Int × Int)} {x : Int} (h : x ∉ l.map (·.1)) : look l x = 0 := by
  by_cases c : look l x = 0
  · exact c
  · exact absurd (look_key c) h
/-- Of two lists of one length, each entry of the one told by the other: they tell the same. -/
theorem same_look {l1 l2 : List (Int × Int)} (h1 : Fine l1) (h2 : Fine l2) (hl : l1.length = l2.length) (h : ∀ c ∈ l1, look l2 c.1 = c.2) (y : Int) : look l1 y = look l2 y := by
  have hk : ∀ x ∈ l1.map (·.1), x ∈ l2.map (·.1) := by
    intro x hx
    obtain ⟨c, hc, rfl⟩ := List.mem_map.1 hx
    exact look_key (by rw [h c hc]; have := h1.1 c hc; omega)
  have hk2 := sub_all h1.2 hk (by simp [hl])
  by_cases hy : y ∈ l1.map (·.1)
  · obtain ⟨c, hc, rfl⟩ := List.mem_map.1 hy
    rw [look_of_mem h1 hc, h c hc]
  · rw [look_nokey hy, look_nokey (fun k => hy (hk2 y k))]
theorem look_len {l1 l2 : List (Int × Int)} (h1 : Fine l1) (h2 : Fine l2) (h : ∀ y, look l1 y = look l2 y) : l1.length = l2.length := by
  have f : ∀ {l l' : List (Int × Int)}, Fine l → (∀ y, look l y = look l' y) → ∀ x ∈ l.map (·.1), x ∈ l'.map (·.1) := by
    intro l l' hl he x hx
    obtain ⟨c, hc, rfl⟩ := List.mem_map.1 hx
    exact look_key (by rw [← he, look_of_mem hl hc]; have := hl.1 c hc; omega)
  have a := sub_len h1.2 (f h1 h)
  have b := sub_len h2.2 (f h2 fun y => (h y).symm)
  simp at a b; omega

/-- What Same answers. -/
def SameEnd (w : World) (p : Prop) (e : Ending) (w' : World) : Prop := Below w.heap.size w w' ∧ ∃ r : Bool, e = .returned (.bool r) ∧ (r = true ↔ p)

set_option maxHeartbeats 2000000 in
theorem refSame_any (w : World) (b1 g1 b2 g2 : Nat) (base1 size1 base2 size2 : Int) (N1 N2 : Nat) (m1 m2 : Int → Int) (h1 : RefMem w b1 g1 base1 size1 N1 m1) (h2 : RefMem w b2 g2 base2 size2 N2 m2) :
    Calls Tryz.prog 66 #[.pointer (some ⟨b1, 0, none⟩), .pointer (some ⟨b2, 0, none⟩)] w (SameEnd w (base1 = base2 ∧ size1 = size2 ∧ ∀ y, m1 y = m2 y)) := by
  have H2 := Lib.hid h2
  obtain ⟨l1, r1, f1, lo1, n1⟩ := h1
  obtain ⟨l2, r2, f2, lo2, n2⟩ := h2
  have p0 := r1.base
  have p1 := r1.size
  have q0 := r2.base
  have q1 := r2.size
  obtain ⟨a1, c1, hb1, hm1, hx1⟩ := r1
  obtain ⟨a2, c2, hb2, hm2, hx2⟩ := r2
  have p2 : w.cell? ⟨b1, 2, none⟩ = some (.slice a1 l1.length c1) := by rw [cell_of_row w b1 2 _ _ _ hb1]; rfl
  have q2 : w.cell? ⟨b2, 2, none⟩ = some (.slice a2 l2.length c2) := by rw [cell_of_row w b2 2 _ _ _ hb2]; rfl
  have L1 := Lib.hid lo1
  have L2 := Lib.hid lo2
  have F1 := Lib.hid f1
  have F2 := Lib.hid f2
  have HB1 := Lib.hid hb1
  have HB2 := Lib.hid hb2
  have HX1 := Lib.hid hx1
  clear lo1 lo2 f1 f2 hb1 hb2 hx1 hx2
  by_cases e1 : base1 = base2
  · have k1 : (base1 != base2) = false := by simpa using e1
    by_cases e2 : size1 = size2
    · have k2 : (size1 != size2) = false := by simpa using e2
      by_cases e3 : l1.length = l2.length
      · have k3 : ((l1.length : Int) != (l2.length : Int)) = false := by rw [e3]; simp
        have E1 := Lib.hid e1
        have E2 := Lib.hid e2
        have E3 := Lib.hid e3
        clear e1 e2 e3
        go_enter Tryz.func66, Tryz.ntmps66
        go_wp2
        go_quiet (fail)
        go_wp2
        go_loopw [5] (fun i wr => ∃ k : Nat, k ≤ l1.length ∧ i = .int .i64 k ∧ (∀ j, j < k → look l2 (l1.getD j (0, 0)).1 = (l1.getD j (0, 0)).2) ∧ Below w.heap.size w wr) (fun i _ => l1.length - (intOf i).toNat)
        case atStart => exact ⟨0, Nat.zero_le _, rfl, fun j hj => absurd hj (by omega), below_drewN (Below.refl _ _) nq⟩
        case round =>
          obtain ⟨k, hk, rfl, hno, hbr⟩ := hrel
          have hb1l : b1 < w.heap.size := (Array.getElem?_eq_some_iff.1 HB1.out).1
          have hbb := (hbr.block b1 hb1l).trans HB1.out
          have c2' : wr.cell? ⟨b1, 2, none⟩ = some (.slice a1 l1.length c1) := by rw [cell_of_row wr b1 2 _ _ _ hbb]; rfl
          have HN := Lib.hid hno
          have HR := Lib.hid (H2.out.below hbr)
          clear hno hbb p0 p1 p2 q0 q1 q2
          by_cases hlt : k < l1.length
          · rcases HX1.out with h0 | ⟨ha, hne, hl⟩
            · subst h0; simp at hlt
            subst ha
            have hl2 := hl.keeps (Only.of_below (fun _ => False) hbr) id
            obtain ⟨cc, hcc⟩ : ∃ cc, l1.getD k (0, 0) = cc := ⟨_, rfl⟩
            have hA := hl2.cell (cellsOf_get l1 k hlt).1
            have hB := hl2.cell (cellsOf_get l1 k hlt).2
            rw [hcc] at hA hB
            have HC := Lib.hid hcc
            have hmem : cc ∈ l1 := by rw [← hcc]; simp [List.getD, hlt]
            have HM := Lib.hid hmem
            clear hcc hl hl2 hmem
            by_cases hm : m2 cc.1 = cc.2
            · have hmm : (m2 cc.1 != cc.2) = false := by simpa using hm
              have HMM := Lib.hid hm
              clear hm
              go_wp2
              go_quiet ((go_at_call 114; exact Calls.quiet_of_same ((mem_at _ b2 g2 base2 size2 N2 m2 _ (HR.out.below (below_drewN (Below.refl _ _) _))).mono fun e w' h => ⟨h.1, h.2.symm⟩)))
              go_wp2
              go_roundw
              case rel => exact ⟨k + 1, by omega, by go_num, fun j hj => (by
                by_cases hjk : j < k
                · exact HN.out j hjk
                · obtain rfl : j = k := by omega
                  rw [HC.out, L2.out]; exact HMM.out), below_drewN hbr _⟩
              case measure => simp [intOf]; omega
            · have hmm : (m2 cc.1 != cc.2) = true := by simpa using hm
              have HMM := Lib.hid hm
              clear hm
              go_wp2
              go_quiet ((go_at_call 114; exact Calls.quiet_of_same ((mem_at _ b2 g2 base2 size2 N2 m2 _ (HR.out.below (below_drewN (Below.refl _ _) _))).mono fun e w' h => ⟨h.1, h.2.symm⟩)))
              go_wp2
              go_ret
              exact ⟨below_drewN hbr _, false, rfl, by simp; intro _ _; refine Classical.not_forall.1 fun h => HMM.out ?_; rw [← h, ← L1.out]; exact look_of_mem F1.out HM.out⟩
          · obtain rfl : k = l1.length := by omega
            go_wp2
            go_ret
            have hy : ∀ y, m1 y = m2 y := fun y => by
              rw [← L1.out, ← L2.out]
              refine same_look F1.out F2.out E3.out (fun c hc => ?_) y
              obtain ⟨j, hj, rfl⟩ := List.getElem_of_mem hc
              have := HN.out j hj
              simpa [List.getD, hj] using this
            exact ⟨hbr, true, rfl, fun _ => ⟨E1.out, E2.out, hy⟩, fun _ => rfl⟩
      · have k3 : ((l1.length : Int) != (l2.length : Int)) = true := by simp; omega
        have E1 := Lib.hid e1
        have E2 := Lib.hid e2
        have E3 := Lib.hid e3
        clear e1 e2 e3
        go_enter Tryz.func66, Tryz.ntmps66
        go_wp2
        go_quiet (fail)
        go_wp2
        go_ret
        exact ⟨below_drewN (Below.refl _ _) nq, false, rfl, by simp; intro _ _; refine Classical.not_forall.1 fun h => E3.out (look_len F1.out F2.out fun y => by rw [L1.out, L2.out, h])⟩
    · have k2 : (size1 != size2) = true := by simpa using e2
      have E1 := Lib.hid e1
      have E2 := Lib.hid e2
      clear e1 e2
      go_enter Tryz.func66, Tryz.ntmps66
      go_wp2
      go_quiet (fail)
      go_wp2
      go_ret
      exact ⟨below_drewN (Below.refl _ _) nq, false, rfl, by simp; intro _ h; exact absurd h E2.out⟩
  · have k1 : (base1 != base2) = true := by simpa using e1
    have E1 := Lib.hid e1
    clear e1
    go_enter Tryz.func66, Tryz.ntmps66
    go_wp2
    go_quiet (fail)
    go_wp2
    go_ret
    exact ⟨below_drewN (Below.refl _ _) nq, false, rfl, by simp; intro h; exact absurd h E1.out⟩

end Go.Proofs.YtbcnkhfpogglmaaGreatDoor.M3

namespace Go.Proofs.YtbcnkhfpogglmaaGreatDoor.M3
open Go.RowKit
set_option linter.unusedVariables false
set_option maxRecDepth 100000

/-- Numbers that rise. -/
def Rises (ps : List Int) : Prop := ps.Pairwise (· < ·)
def pageOf (x : Int) : Int := x / 4096 * 4096
/-- The pages of the first k entries. -/
def PagesTo (l : List (Int × Int)) (k : Nat) (ps : List Int) : Prop := Rises ps ∧ ps.length ≤ k ∧ (∀ p ∈ ps, In64 p) ∧ ∀ p, p ∈ ps ↔ ∃ j, j < k ∧ pageOf (l.getD j (0, 0)).1 = p
/-- What Pages answers. -/
def PagesEnd (w : World) (m : Int → Int) (e : Ending) (w' : World) : Prop :=
  Below w.heap.size w w' ∧ ∃ a n c ps, e = .returned (.slice a n c) ∧ w'.ownsRow w.heap.size 26 1 (.slice a n c) ps.length (ps.map (Value.int .u64)) ∧ Rises ps ∧ ∀ p, p ∈ ps ↔ ∃ y, ¬ m y = 0 ∧ pageOf y = p

/-- What a call leaves that may turn the object: its own blocks are the old ones, or new. -/
def ProgEnd (M : World → Nat → (Nat → Prop) → Int → Int → (Int → Int) → Prop) (w : World) (b : Nat) (S : Nat → Prop) (base size : Int) (m : Int → Int) (r : Bool) (e : Ending) (w' : World) : Prop :=
  e = .returned (.bool r) ∧ Only S w w' ∧ ∃ S', (∀ i, S' i → S i ∨ w.heap.size ≤ i) ∧ M w' b S' base size m

theorem RefMem.norm {w : World} {b g : Nat} {base size : Int} {N : Nat} {m : Int → Int} (h : RefMem w b g base size N m) : ∃ g', (g' = g ∨ g' = b) ∧ g' < w.heap.size ∧ RefMem w b g' base size N m := by
  have hlt := h.lt
  obtain ⟨l, ⟨a, c, h1, h2, h3⟩, h4⟩ := h
  rcases h3 with h3 | ⟨h5, h6, h7⟩
  · exact ⟨b, .inr rfl, hlt, l, ⟨a, c, h1, h2, .inl h3⟩, h4⟩
  · exact ⟨g, .inl rfl, h7.lt, l, ⟨a, c, h1, h2, .inr ⟨h5, h6, h7⟩⟩, h4⟩

/-- What the program's New answers. -/
def ProgNew (M : World → Nat → (Nat → Prop) → Int → Int → (Int → Int) → Prop) (w : World) (base size : Int) (ok : Bool) (e : Ending) (w' : World) : Prop :=
  Below w.heap.size w w' ∧ ((ok = false ∧ e = .returned (.tuple #[.pointer none, .int .i64 1])) ∨
    (ok = true ∧ ∃ b S, e = .returned (.tuple #[.pointer (some ⟨b, 0, none⟩), .int .i64 0]) ∧ (∀ i, S i → w.heap.size ≤ i) ∧ M w' b S base size fun _ => 0))

end Go.Proofs.YtbcnkhfpogglmaaGreatDoor.M3

namespace Go.Proofs.YtbcnkhfpogglmaaGreatDoor.M3
open Go.RowKit
set_option linter.unusedVariables false
set_option maxRecDepth 100000

/-- The array of n bytes. -/
def uarr (n : Nat) (f : Nat → Int) : Array Value := varr n fun i => .int .u8 (f i)
theorem uarr_size (n : Nat) (f : Nat → Int) : (uarr n f).size = n := varr_size n _
theorem uarr_get (n : Nat) (f : Nat → Int) (j : Nat) (h : j < n) : (uarr n f)[j]? = some (.int .u8 (f j)) := varr_get n _ j h
theorem uarr_one (n : Nat) (f : Nat → Int) : (uarr n f).all (·.oneCell') = true := varr_one fun _ => rfl
theorem uarr_congr {n : Nat} {f g : Nat → Int} (h : ∀ i, i < n → f i = g i) : uarr n f = uarr n g := varr_congr fun i hi => by rw [h i hi]

/-- All the bytes are alike. -/
def alike (n : Nat) (f g : Nat → Int) : Bool := (List.range n).all fun i => f i == g i
theorem alike_iff {n : Nat} {f g : Nat → Int} : alike n f g = true ↔ ∀ i, i < n → f i = g i := by
  unfold alike; simp [List.all_eq_true]

section
variable {P : Program} (w : World)
theorem run_part_u8 {e : TypeId} (ha : (isAgg e).run P w = .ok false w) {n : Nat} {f : Nat → Int} {i : Nat} (h : i < n) : (part e (uarr n f) i).run P w = .ok (.int .u8 (f i)) w := by
  simp [part, ha, uarr_get n f i h]

theorem run_alike {d : Nat} {e : TypeId} (ha : (isAgg e).run P w = .ok false w) (he : P.underlying e = some (.int .u8)) {n : Nat} (f g : Nat → Int) (l : List Nat) (hl : ∀ i ∈ l, i < n) :
    ((forIn l ((none, ()) : Option Bool × Unit) fun i _ => do
        let x ← part e (uarr n f) i
        let y ← part e (uarr n g) i
        let r ← Op.equalIn (d + 1) e x y
        if (!r) = true then pure (ForInStep.done (some false, ())) else pure (ForInStep.yield (none, ()))).run P w) =
      .ok (if (l.all fun i => f i == g i) = true then (none, ()) else (some false, ())) w := by
  induction l with
  | nil => simp
  | cons i l ih =>
    have hi := hl i (by simp)
    have ih := ih fun j hj => hl j (by simp [hj])
    rw [List.forIn_cons]
    simp only [Sem.run_bind, run_part_u8 w ha hi, Result.andThen_ok, run_equalIn_int w d e .u8 .u8 _ _ he]
    cases hc : (f i == g i)
    · simp [hc]
    · simp only [Bool.not_true, Bool.false_eq_true, if_false, Sem.run_pure, Result.andThen_ok, List.all_cons, hc, Bool.true_and]
      exact ih

theorem run_equalIn_bytes {d : Nat} {t e : TypeId} {n : Nat} (ht : P.underlying t = some (.array n e)) (hs : (sizeOf e).run P w = .ok 1 w) (ha : (isAgg e).run P w = .ok false w) (he : P.underlying e = some (.int .u8)) (f g : Nat → Int) :
    (Op.equalIn (d + 1 + 1) t (.agg (uarr n f)) (.agg (uarr n g))).run P w = .ok (alike n f g) w := by
  rw [Op.equalIn]
  simp only [Sem.run_bind, run_underlying ht, Result.andThen_ok, hs, Nat.mul_one]
  rw [Std.Legacy.Range.forIn_eq_forIn_range']
  simp only [Std.Legacy.Range.size]
  have e1 : (n - 0 + 1 - 1) / 1 = n := by simp
  rw [e1, ← List.range_eq_range', run_alike w ha he f g (List.range n) fun i hi => List.mem_range.1 hi, Result.andThen_ok]
  unfold alike
  cases (List.range n).all fun i => f i == g i <;> simp

theorem run_eql_bytes {t e : TypeId} {n : Nat} (ht : P.underlying t = some (.array n e)) (hs : (sizeOf e).run P w = .ok 1 w) (ha : (isAgg e).run P w = .ok false w) (he : P.underlying e = some (.int .u8)) (f g : Nat → Int) :
    (binOp .eql t (.agg (uarr n f)) (.agg (uarr n g))).run P w = .ok (.bool (alike n f g)) w := by
  rw [run_eql_struct, run_equalIn_bytes (d := 9998) w ht hs ha he]
  rfl
end

end Go.Proofs.YtbcnkhfpogglmaaGreatDoor.M3

namespace Go.Proofs.YtbcnkhfpogglmaaGreatDoor.M3
open Go.RowKit Go.Maps
set_option linter.unusedVariables false
set_option maxRecDepth 100000

/-- How a pointer reads as a number: its block's, or -1. -/
def ptrElem (v : Value) : Option (DataW Unit × List MemPlace) :=
  match v with
  | .pointer none => some (.lit (.int .i64 (-1)), [])
  | .pointer (some ⟨g, 0, none⟩) => some (.lit (.int .i64 g), [])
  | _ => none
def encP : Option Nat → DataW Unit
  | none => .lit (.int .i64 (-1))
  | some g => .lit (.int .i64 g)
def ptrTo : Option Nat → Value
  | none => .pointer none
  | some g => .pointer (some ⟨g, 0, none⟩)
theorem ptrElem_to (o : Option Nat) : ptrElem (ptrTo o) = some (encP o, []) := by cases o <;> rfl
theorem ptrElem_inv {v : Value} {z : DataW Unit × List MemPlace} (h : ptrElem v = some z) : ∃ o, v = ptrTo o ∧ z = (encP o, []) := by
  unfold ptrElem at h
  split at h
  · cases h; exact ⟨none, rfl, rfl⟩
  · cases h; exact ⟨some _, rfl, rfl⟩
  · cases h
theorem encP_inj {o o' : Option Nat} (h : encP o = encP o') : o = o' := by
  cases o <;> cases o' <;> simp [encP] at h ⊢
  · omega
theorem wf_u64 {q : Int} (h : In64 q) : (Lit.int .u64 q).wf = true := by
  unfold In64 at h
  simp [Lit.wf, IntKind.min, IntKind.max, IntKind.signed, IntKind.bits]; omega
theorem wf_u64_in {q : Int} (h : (Lit.int .u64 q).wf = true) : In64 q := by
  unfold In64
  simp [Lit.wf, IntKind.min, IntKind.max, IntKind.signed, IntKind.bits] at h; omega

theorem nodup_le (N : Nat) (lo : Int) (l : List Int) (hn : l.Nodup) (h : ∀ x ∈ l, lo ≤ x ∧ x < lo + N) : l.length ≤ N := by
  induction N generalizing l with
  | zero =>
    cases l with
    | nil => simp
    | cons a l => have := h a (by simp); omega
  | succ N ih =>
    by_cases c : lo + N ∈ l
    · have h1 := List.length_erase_of_mem c
      have h2 := ih (l.erase (lo + N)) (hn.erase _) fun x hx => by
        have h3 := (hn.mem_erase_iff).1 hx
        have h4 := h x h3.2
        have := h3.1
        omega
      omega
    · have := ih l hn fun x hx => by
        have h4 := h x hx
        have : x ≠ lo + N := fun e => c (e ▸ hx)
        omega
      omega

/-- The types' facts. -/
structure PgT (P : Program) (t k e : TypeId) : Prop where
  hk : P.underlying k = some (.int .u64)
  ht : P.underlying t = some (.map k e)
  hz : ∀ w, (zeroValue e).run P w = .ok (.pointer none) w

/-- Block mb of the world is a map whose entry at q leads to block pg q. -/
def PgMap (P : Program) (k : TypeId) (w : World) (mb : Nat) (pg : Int → Option Nat) : Prop :=
  ∃ n D, w.ownsMap P k ptrElem mb n D ∧ (∀ q, D.atKey (.int .u64 q) (encP none) = encP (pg q)) ∧ ∀ kl, Maps.has D kl = true → ∃ q, In64 q ∧ kl = .int .u64 q ∧ pg q ≠ none

section
variable {P : Program} {t k e : TypeId} {w w' : World} {mb : Nat} {pg : Int → Option Nat}

theorem PgMap.lt (h : PgMap P k w mb pg) : mb < w.heap.size := by obtain ⟨n, D, h, _⟩ := h; exact h.lt
theorem PgMap.keeps {S : Nat → Prop} (h : PgMap P k w mb pg) (o : Only S w w') (hs : ¬ S mb) : PgMap P k w' mb pg := by
  obtain ⟨n, D, h1, h2⟩ := h
  have hlt := h1.lt
  obtain ⟨es, clock, hb, r⟩ := h1
  exact ⟨n, D, ⟨es, clock, (o.block mb hlt hs).trans hb, r⟩, h2⟩
theorem PgMap.congr (h : PgMap P k w mb pg) {pg' : Int → Option Nat} (e : ∀ q, pg q = pg' q) : PgMap P k w mb pg' := by
  obtain rfl : pg = pg' := funext e; exact h
theorem PgMap.made (P : Program) (k : TypeId) (w : World) : PgMap P k (w.alloc (.map #[] 0)) w.heap.size fun _ => none :=
  ⟨0, _, World.ownsMap_made w P k ptrElem, fun q => rfl, fun kl h => by simp [Maps.has] at h⟩

theorem PgMap.look (h : PgMap P k w mb pg) (T : PgT P t k e) {q : Int} (hq : In64 q) :
    (Instr.lookup t (.map (some mb)) (.int .u64 q) false).run P w = .ok (ptrTo (pg q)) w := by
  obtain ⟨n, D, h1, h2, h3⟩ := h
  obtain ⟨v, ps, hr, hv⟩ := h1.lookup (int_keyed T.hk) T.ht (T.hz w) (ptrElem_to none) (keyOf_int_mk T.hk (wf_u64 hq))
  obtain ⟨o, rfl, ho⟩ := ptrElem_inv hv
  injection ho with ho _
  rw [h2 q] at ho
  rw [hr, encP_inj ho]

theorem PgMap.size_le (h : PgMap P k w mb pg) (hk : P.underlying k = some (.int .u64)) {lo : Int} {N : Nat} (hN : ∀ q, pg q ≠ none → lo ≤ q ∧ q < lo + N) : ∃ n D, n ≤ N ∧ Maps.size D = n ∧ w.ownsMap P k ptrElem mb n D ∧ (∀ q, D.atKey (.int .u64 q) (encP none) = encP (pg q)) ∧ ∀ kl, Maps.has D kl = true → ∃ q, In64 q ∧ kl = .int .u64 q ∧ pg q ≠ none := by
  obtain ⟨n, D, ⟨es, clock, hb, F, hs, hD⟩, h2, h3⟩ := h
  have hsz : Maps.size D = es.size := by rw [hD]; simp [Maps.size, Go.length_read]
  refine ⟨es.size, D, ?_, hsz, ⟨es, clock, hb, F, Nat.le_refl _, hD⟩, h2, h3⟩
  rw [← hsz]
  have ht := World.ownsMap.tidy (⟨es, clock, hb, F, hs, hD⟩ : w.ownsMap P k ptrElem mb n D) (int_keyed hk)
  obtain ⟨l, rfl, hp⟩ := ht
  have hkey : ∀ p ∈ l, ∃ q, p.1 = .int .u64 q ∧ pg q ≠ none := fun p hpm => by
    obtain ⟨q, _, e1, e2⟩ := h3 p.1 (by
      show (l.any fun r => r.1.sameKey p.1) = true
      rw [List.any_eq_true]
      refine ⟨p, hpm, ?_⟩
      have hent := World.ownsMap.entries (⟨es, clock, hb, F, hs, hD⟩ : w.ownsMap P k ptrElem mb n _) (int_keyed hk)
      obtain ⟨es2, e3, _, e4⟩ := hent
      injection e3 with e3
      subst e3
      exact WideAt.sameKey_self (e4 p hpm))
    exact ⟨q, e1, e2⟩
  let f : Lit × DataW Unit → Int := fun p => match p.1 with | .int _ q => q | _ => 0
  have hnd : (l.map f).Nodup := by
    rw [List.Nodup, List.pairwise_map]
    refine List.Pairwise.imp_of_mem ?_ hp
    intro a b ha hb hne he
    obtain ⟨q1, e1, _⟩ := hkey a ha
    obtain ⟨q2, e2, _⟩ := hkey b hb
    apply hne
    simp only [f, e1, e2] at he
    rw [e1, e2, he]
  have := nodup_le N lo (l.map f) hnd fun x hx => by
    obtain ⟨p, hp1, rfl⟩ := List.mem_map.1 hx
    obtain ⟨q, e1, e2⟩ := hkey p hp1
    simp only [f, e1]
    exact hN q e2
  simpa [Maps.size] using this

theorem PgMap.put (h : PgMap P k w mb pg) (T : PgT P t k e) {lo : Int} {N : Nat} (hN : ∀ q, pg q ≠ none → lo ≤ q ∧ q < lo + N) (hM : N < maxLen) {q : Int} (hq : In64 q) (g : Nat) :
    ∃ w', (Instr.mapUpdate t (.map (some mb)) (.int .u64 q) (.pointer (some ⟨g, 0, none⟩))).run P w = .ok () w' ∧ PgMap P k w' mb (fun y => if y = q then some g else pg y) ∧ w.mapTurned w' mb := by
  obtain ⟨n, D, hn, _, h1, h2, h3⟩ := h.size_le T.hk hN
  have K := int_keyed T.hk
  have hkey := keyOf_int_mk T.hk (wf_u64 hq)
  obtain ⟨w', hr, ho, hg⟩ := h1.store K T.ht (by omega) hkey (ptrElem_to (some g))
  refine ⟨w', hr, ⟨_, _, ho, fun y => ?_, fun kl hkl => ?_⟩, hg⟩
  · show _ = encP (if y = q then some g else pg y)
    by_cases e : y = q
    · subst e; rw [if_pos rfl]; exact Maps.atKey_put_same h1.isMap (K.key hkey) _ _
    · rw [if_neg e, Maps.atKey_put_other (by intro h; injection h with _ h; exact e h)]; exact h2 y
  · by_cases e : kl = .int .u64 q
    · subst e; exact ⟨q, hq, rfl, by simp⟩
    · rw [Maps.has_put_other e] at hkl
      obtain ⟨y, h4, rfl, h5⟩ := h3 kl hkl
      exact ⟨y, h4, rfl, by show (if y = q then some g else pg y) ≠ none; rw [if_neg (by intro h; exact e (by rw [h]))]; exact h5⟩
theorem PgMap.drop (h : PgMap P k w mb pg) (T : PgT P t k e) {q : Int} (hq : In64 q) (ty : TypeId) :
    ∃ w', (Builtin.delete_ #[t, k] ty #[.map (some mb), .int .u64 q]).run P w = .ok (.tuple #[]) w' ∧ PgMap P k w' mb (fun y => if y = q then none else pg y) ∧ w.mapTurned w' mb := by
  obtain ⟨n, D, h1, h2, h3⟩ := h
  have hkey := keyOf_int_mk T.hk (wf_u64 hq)
  obtain ⟨w', hr, ho, hg⟩ := h1.drop (int_keyed T.hk) T.ht hkey ty
  refine ⟨w', hr, ⟨_, _, ho, fun y => ?_, fun kl hkl => ?_⟩, hg⟩
  · show _ = encP (if y = q then none else pg y)
    by_cases e : y = q
    · subst e; rw [if_pos rfl]; exact Maps.atKey_del_same _
    · rw [if_neg e, Maps.atKey_del_other (by intro h; injection h with _ h; exact e h)]; exact h2 y
  · by_cases e : kl = .int .u64 q
    · subst e; rw [Maps.has_del_same] at hkl; cases hkl
    · rw [Maps.has_del_other e] at hkl
      obtain ⟨y, h4, rfl, h5⟩ := h3 kl hkl
      exact ⟨y, h4, rfl, by show (if y = q then none else pg y) ≠ none; rw [if_neg (by intro h; exact e (by rw [h]))]; exact h5⟩

theorem mapTurned_only {S : Nat → Prop} (h : w.mapTurned w' mb) (hs : S mb) : Only S w w' := by
  have g := h.grown
  exact ⟨g.os, g.tape, g.output, g.size, fun i hi hn => g.block i hi (by intro e; cases e; exact hn hs)⟩
theorem mapTurned_size (h : w.mapTurned w' mb) : w'.heap.size = w.heap.size := by
  obtain ⟨es, clock, es', clock', hb, rfl⟩ := h
  show (Array.setIfInBounds _ _ _).size = _
  simp
end

end Go.Proofs.YtbcnkhfpogglmaaGreatDoor.M3

namespace Go.Proofs.YtbcnkhfpogglmaaGreatDoor.M3
open Go.RowKit Go.Maps
set_option linter.unusedVariables false
set_option maxRecDepth 100000

theorem pgT : PgT Tryz.prog 122 26 123 := ⟨Tryz.underlying26, Tryz.underlying122, fun w => Tryz.zeroValue123 w⟩

/-- Block g holds the 4096 bytes of m from 4096 q on. -/
def PageAt (w : World) (g : Nat) (m : Int → Int) (q : Int) : Prop := w.heap[g]? = some (.cells (uarr 4096 fun i => m (q * 4096 + i)) 138 (0, 0))

/-- What the map and the pages hold. -/
structure PgOk (w : World) (b mb : Nat) (S : Nat → Prop) (m : Int → Int) (pg : Int → Option Nat) : Prop where
  map : PgMap Tryz.prog 26 w mb pg
  page : ∀ q g, pg q = some g → PageAt w g m q ∧ S g ∧ g ≠ b ∧ g ≠ mb ∧ ∃ i : Nat, i < 4096 ∧ ¬ m (q * 4096 + i) = 0
  gone : ∀ q, pg q = none → ∀ i : Nat, i < 4096 → m (q * 4096 + i) = 0
  inj : ∀ q q' g, pg q = some g → pg q' = some g → q = q'
  sb : S b
  smb : S mb
  ne : mb ≠ b
  lt : ∀ i, S i → i < w.heap.size

/-- The object in block b, whose own blocks are those of S, is the memory m. -/
def ProgMem (w : World) (b : Nat) (S : Nat → Prop) (base size : Int) (m : Int → Int) : Prop :=
  ∃ mb pg, w.heap[b]? = some (.cells #[.int .u64 base, .int .u64 size, .map (some mb)] 125 (0, 0)) ∧ PgOk w b mb S m pg ∧ Bytey m ∧ (∀ y, ¬ m y = 0 → base ≤ y ∧ y < base + size) ∧ base % 4096 = 0 ∧ size % 4096 = 0

theorem ProgMem.keeps {w w' : World} {b : Nat} {S : Nat → Prop} {base size : Int} {m : Int → Int} {T : Nat → Prop} (h : ProgMem w b S base size m) (o : Only T w w') (hs : ∀ i, S i → ¬ T i) : ProgMem w' b S base size m := by
  obtain ⟨mb, pg, h1, h2, h3⟩ := h
  refine ⟨mb, pg, o.keeps (hs _ h2.sb) h1, ⟨h2.map.keeps o (hs _ h2.smb), fun q g e => ?_, h2.gone, h2.inj, h2.sb, h2.smb, h2.ne, fun i hi => Nat.lt_of_lt_of_le (h2.lt i hi) o.size⟩, h3⟩
  obtain ⟨k1, k2, k3⟩ := h2.page q g e
  exact ⟨o.keeps (hs _ k2) k1, k2, k3⟩

theorem pages_in {w : World} {b mb : Nat} {S : Nat → Prop} {m : Int → Int} {pg : Int → Option Nat} {base size : Int} (h : PgOk w b mb S m pg) (hf : Fits base size) (hm : ∀ y, ¬ m y = 0 → base ≤ y ∧ y < base + size) (h1 : base % 4096 = 0) (h2 : size % 4096 = 0) :
    ∀ q, pg q ≠ none → base / 4096 ≤ q ∧ q < base / 4096 + (16384 : Nat) := by
  intro q hq
  cases e : pg q with
  | none => exact absurd e hq
  | some g =>
    obtain ⟨_, _, _, _, i, hi, hne⟩ := h.page q g e
    have := hm _ hne
    unfold Fits at hf
    omega

theorem isWhole_any (n : Int) (hn : In64 n) (w : World) :
    Calls Tryz.prog 75 #[.int .u64 n] w fun e w' => e = .returned (.bool (n % 4096 == 0)) ∧ w = w' := by
  have h1 := hn.1
  have h2 := hn.2
  go_enter Tryz.func75, Tryz.ntmps75
  go_wp2
  go_ret
  exact ⟨rfl, rfl⟩

theorem isLength_any (n : Int) (w : World) :
    Calls Tryz.prog 68 #[.int .i64 n] w fun e w' => e = .returned (.bool (okN n)) ∧ w = w' := by
  by_cases h1 : n = 1
  · subst h1
    go_enter Tryz.func68, Tryz.ntmps68
    go_wp2
    go_ret
    exact ⟨rfl, rfl⟩
  by_cases h2 : n = 2
  · subst h2
    go_enter Tryz.func68, Tryz.ntmps68
    go_wp2
    go_ret
    exact ⟨rfl, rfl⟩
  by_cases h3 : n = 4
  · subst h3
    go_enter Tryz.func68, Tryz.ntmps68
    go_wp2
    go_ret
    exact ⟨rfl, rfl⟩
  by_cases h4 : n = 8
  · subst h4
    go_enter Tryz.func68, Tryz.ntmps68
    go_wp2
    go_ret
    exact ⟨rfl, rfl⟩
  have e : okN n = false := by unfold okN; rw [decide_eq_false]; omega
  rw [e]
  have e1 : (n == 1) = false := by simpa using h1
  have e2 : (n == 2) = false := by simpa using h2
  have e3 : (n == 4) = false := by simpa using h3
  have e4 : (n == 8) = false := by simpa using h4
  clear h1 h2 h3 h4 e
  go_enter Tryz.func68, Tryz.ntmps68
  go_wp2
  go_ret
  exact ⟨rfl, rfl⟩

theorem place_any (x : Int) (hx : In64 x) (w : World) :
    Calls Tryz.prog 115 #[.int .u64 x] w fun e w' => e = .returned (.tuple #[.int .u64 (x / 4096), .int .i64 (x % 4096)]) ∧ w = w' := by
  have h1 := hx.1
  have h2 := hx.2
  go_enter Tryz.func115, Tryz.ntmps115
  go_wp2
  go_ret2
  exact ⟨rfl, rfl⟩

end Go.Proofs.YtbcnkhfpogglmaaGreatDoor.M3

namespace Go.Proofs.YtbcnkhfpogglmaaGreatDoor.M3
open Go.RowKit Go.Maps
set_option linter.unusedVariables false
set_option maxRecDepth 100000

/-- The struct's three cells. -/
theorem ram_cells {w : World} {b mb : Nat} {base size : Int} (h : w.heap[b]? = some (.cells #[.int .u64 base, .int .u64 size, .map (some mb)] 125 (0, 0))) :
    w.cell? ⟨b, 0, none⟩ = some (.int .u64 base) ∧ w.cell? ⟨b, 1, none⟩ = some (.int .u64 size) ∧ w.cell? ⟨b, 2, none⟩ = some (.map (some mb)) := by
  refine ⟨?_, ?_, ?_⟩
  · rw [cell_of_row w b 0 _ _ _ h]; rfl
  · rw [cell_of_row w b 1 _ _ _ h]; rfl
  · rw [cell_of_row w b 2 _ _ _ h]; rfl

theorem progBase_any {w : World} {b : Nat} {S : Nat → Prop} {base size : Int} {m : Int → Int} (h : ProgMem w b S base size m) :
    Calls Tryz.prog 76 #[.pointer (some ⟨b, 0, none⟩)] w fun e w' => e = .returned (.int .u64 base) ∧ w = w' := by
  obtain ⟨mb, pg, hb, _⟩ := h
  obtain ⟨c0, c1, c2⟩ := ram_cells hb
  clear hb
  go_enter Tryz.func76, Tryz.ntmps76
  go_wp2
  go_ret
  exact ⟨rfl, rfl⟩

theorem progSize_any {w : World} {b : Nat} {S : Nat → Prop} {base size : Int} {m : Int → Int} (h : ProgMem w b S base size m) :
    Calls Tryz.prog 77 #[.pointer (some ⟨b, 0, none⟩)] w fun e w' => e = .returned (.int .u64 size) ∧ w = w' := by
  obtain ⟨mb, pg, hb, _⟩ := h
  obtain ⟨c0, c1, c2⟩ := ram_cells hb
  clear hb
  go_enter Tryz.func77, Tryz.ntmps77
  go_wp2
  go_ret
  exact ⟨rfl, rfl⟩

theorem progHas_nil (x n : Int) (w : World) :
    Calls Tryz.prog 36 #[.pointer none, .int .u64 x, .int .i64 n] w fun e w' => e = .returned (.bool false) ∧ w = w' := by
  go_enter Tryz.func36, Tryz.ntmps36
  go_wp2
  go_ret
  exact ⟨rfl, rfl⟩

set_option maxHeartbeats 1000000 in
theorem progHas_any {w : World} {b : Nat} {S : Nat → Prop} {base size : Int} {m : Int → Int} (x n : Int) (h : ProgMem w b S base size m) (hf : Fits base size) (hx : In64 x) (hn : In63 n) :
    Calls Tryz.prog 36 #[.pointer (some ⟨b, 0, none⟩), .int .u64 x, .int .i64 n] w fun e w' => e = .returned (.bool (hasZ base size x n)) ∧ w = w' := by
  obtain ⟨mb, pg, hb, _⟩ := h
  obtain ⟨c0, c1, c2⟩ := ram_cells hb
  clear hb
  obtain ⟨f1, f2, f3, f4⟩ := hf
  have x1 := hx.1
  have x2 := hx.2
  have n1 := hn.1
  have n2 := hn.2
  by_cases a : n < 0
  · rw [show hasZ base size x n = false by unfold hasZ; rw [decide_eq_false]; omega]
    go_enter Tryz.func36, Tryz.ntmps36
    go_wp2
    go_ret
    exact ⟨rfl, rfl⟩
  by_cases z : n = 0
  · subst z
    rw [show hasZ base size x 0 = true by unfold hasZ; rw [decide_eq_true]; omega]
    go_enter Tryz.func36, Tryz.ntmps36
    go_wp2
    go_ret
    exact ⟨rfl, rfl⟩
  have zz : (n == 0) = false := by simpa using z
  have zp : 0 < n := by omega
  clear z
  by_cases c : base ≤ x
  · have d1 : 0 ≤ x - base := by omega
    have d2 : x - base ≤ 18446744073709551615 := by omega
    by_cases e : x - base < size
    · have d3 : 0 ≤ size - (x - base) := by omega
      have d4 : size - (x - base) ≤ 18446744073709551615 := by omega
      by_cases k : n ≤ size - (x - base)
      · rw [show hasZ base size x n = true by unfold hasZ; rw [decide_eq_true]; omega]
        go_enter Tryz.func36, Tryz.ntmps36
        go_wp2
        go_ret
        exact ⟨rfl, rfl⟩
      · rw [show hasZ base size x n = false by unfold hasZ; rw [decide_eq_false]; omega]
        go_enter Tryz.func36, Tryz.ntmps36
        go_wp2
        go_ret
        exact ⟨rfl, rfl⟩
    · rw [show hasZ base size x n = false by unfold hasZ; rw [decide_eq_false]; omega]
      go_enter Tryz.func36, Tryz.ntmps36
      go_wp2
      go_ret
      exact ⟨rfl, rfl⟩
  · rw [show hasZ base size x n = false by unfold hasZ; rw [decide_eq_false]; omega]
    go_enter Tryz.func36, Tryz.ntmps36
    go_wp2
    go_ret
    exact ⟨rfl, rfl⟩

end Go.Proofs.YtbcnkhfpogglmaaGreatDoor.M3

namespace Go.Proofs.YtbcnkhfpogglmaaGreatDoor.M3
open Go.RowKit
set_option linter.unusedVariables false
set_option maxRecDepth 100000

theorem bit_V {x : Nat} (h : x < 2 ^ 64) (i : Nat) : (V (x : Int)).getLsbD i = x.testBit i := by
  have e : (V (x : Int)).toNat = x := by
    have := toNat_V (x := (x : Int)) (by unfold In64; omega)
    omega
  rw [BitVec.getLsbD, e]

/-- Byte k of a word. -/
theorem field_byte {v : Int} (hv : In64 v) {k : Nat} (hk : k < 8) : U (fieldB (V v) (8 * k) 8) = v / 256 ^ k % 256 := by
  obtain ⟨n, rfl⟩ : ∃ n : Nat, v = n := ⟨v.toNat, by have := hv.1; omega⟩
  have hn : n < 2 ^ 64 := by have := hv.2; omega
  have e : fieldB (V n) (8 * k) 8 = V ((n / 2 ^ (8 * k) % 2 ^ 8 : Nat) : Int) := ext64 fun i hi => by
    rw [field_bit (V n) 8 (by omega), bit_V hn, bit_V (by have := Nat.mod_lt (n / 2 ^ (8 * k)) (show 0 < 2 ^ 8 by omega); omega), Nat.testBit_mod_two_pow, Nat.testBit_div_two_pow, decide_eq_true hi, Bool.true_and]
    have e1 : (8 * (k : Int)).toNat = 8 * k := by omega
    rw [e1, Nat.add_comm]
    congr 1
    rw [decide_eq_decide]; omega
  rw [e, U_V (by have := Nat.mod_lt (n / 2 ^ (8 * k)) (show 0 < 2 ^ 8 by omega); unfold In64; omega)]
  have e2 : (2 : Nat) ^ (8 * k) = 256 ^ k := by rw [Nat.pow_mul]
  rw [e2, Int.natCast_emod, Int.natCast_ediv, Int.natCast_pow]
  rfl

/-- A byte put above a number. -/
theorem put_byte {v y : Int} {k : Nat} (hk : k < 8) (h0 : 0 ≤ v) (h1 : v < 256 ^ k) (y0 : 0 ≤ y) (y1 : y ≤ 255) : U (putB (V v) (8 * k) 8 (V y)) = v + 256 ^ k * y := by
  obtain ⟨n, rfl⟩ : ∃ n : Nat, v = n := ⟨v.toNat, by omega⟩
  obtain ⟨z, rfl⟩ : ∃ z : Nat, y = z := ⟨y.toNat, by omega⟩
  have hp : (256 : Nat) ^ k = 2 ^ (8 * k) := by rw [Nat.pow_mul]
  have hn : n < 2 ^ (8 * k) := by
    rw [← hp]
    have h2 : ((n : Nat) : Int) < ((256 ^ k : Nat) : Int) := by rw [Int.natCast_pow]; exact h1
    exact Int.ofNat_lt.1 h2
  have hz : z < 2 ^ 8 := by omega
  have hle : (2 : Nat) ^ (8 * k) * 2 ^ 8 ≤ 2 ^ 64 := by rw [← Nat.pow_add]; exact Nat.pow_le_pow_right (by omega) (by omega)
  have hs : z * 2 ^ (8 * k) + n < 2 ^ 64 := by
    have : (z + 1) * 2 ^ (8 * k) ≤ 2 ^ 8 * 2 ^ (8 * k) := Nat.mul_le_mul_right _ (by omega)
    rw [Nat.mul_comm (2 ^ 8)] at this
    rw [Nat.add_mul] at this
    omega
  have hn64 : n < 2 ^ 64 := by
    have : 2 ^ (8 * k) ≤ 2 ^ (8 * k) * 2 ^ 8 := Nat.le_mul_of_pos_right _ (by omega)
    omega
  have e : putB (V n) (8 * k) 8 (V z) = V ((z * 2 ^ (8 * k) + n : Nat) : Int) := ext64 fun i hi => by
    rw [put_bit (V n) 8 (V z) (by omega), bit_V hs, bit_V hn64, bit_V (by omega), decide_eq_true hi, Bool.true_and]
    have e1 : (8 * (k : Int)).toNat = 8 * k := by omega
    rw [e1, ← Nat.shiftLeft_eq, Nat.shiftLeft_add_eq_or_of_lt hn, Nat.testBit_or, Nat.testBit_shiftLeft]
    by_cases a : 8 * k ≤ i
    · have b : n.testBit i = false := Nat.testBit_lt_two_pow (Nat.lt_of_lt_of_le hn (Nat.pow_le_pow_right (by omega) a))
      by_cases c : (i : Int) - 8 * k < 8
      · rw [if_pos ⟨a, c⟩, b, decide_eq_true a]; simp
      · rw [if_neg (fun h => c h.2), b]
        have : z.testBit (i - 8 * k) = false := Nat.testBit_lt_two_pow (Nat.lt_of_lt_of_le hz (Nat.pow_le_pow_right (by omega) (by omega)))
        rw [this]; simp
    · rw [if_neg (fun h => a h.1), decide_eq_false a]; simp
  rw [e, U_V (by unfold In64; omega), ← hp]
  rw [Int.natCast_add, Int.natCast_mul, Int.natCast_pow, Int.mul_comm, Int.add_comm]
  rfl

theorem rdN_snoc (m : Int → Int) (x : Int) (k : Nat) : rdN m x (k + 1) = rdN m x k + 256 ^ k * m (x + k) := by
  induction k generalizing x with
  | zero => simp [rdN]
  | succ k ih =>
    show m x + 256 * rdN m (x + 1) (k + 1) = (m x + 256 * rdN m (x + 1) k) + 256 ^ (k + 1) * m (x + ((k + 1 : Nat) : Int))
    rw [ih (x + 1), show x + 1 + (k : Int) = x + ((k + 1 : Nat) : Int) by omega, Int.mul_add, Int.pow_succ, Int.mul_comm (256 ^ k) 256, Int.mul_assoc, Int.add_assoc]
/-- Bytes that are 0 behind the first ones add nothing. -/
theorem rdN_zeros {m : Int → Int} {x : Int} {c d : Nat} (h : ∀ i : Nat, c ≤ i → i < c + d → m (x + i) = 0) : rdN m x (c + d) = rdN m x c := by
  induction d with
  | zero => rfl
  | succ d ih => rw [← Nat.add_assoc, rdN_snoc, ih fun i h1 h2 => h i h1 (by omega), h (c + d) (by omega) (by omega), Int.mul_zero, Int.add_zero]

end Go.Proofs.YtbcnkhfpogglmaaGreatDoor.M3

namespace Go.Proofs.YtbcnkhfpogglmaaGreatDoor.M3
open Go.RowKit Go.Maps
set_option linter.unusedVariables false
set_option maxRecDepth 100000

/-- Block g of the world holds these bytes, and may be written. -/
def HoldsU (w : World) (g : Nat) (t : TypeId) (n : Nat) (f : Nat → Int) : Prop := w.heap[g]? = some (.cells (uarr n f) t (0, 0))
theorem HoldsU.cell {w : World} {g : Nat} {t : TypeId} {n : Nat} {f : Nat → Int} (h : HoldsU w g t n f) {j : Nat} (hj : j < n) : w.cell? ⟨g, j, none⟩ = some (.int .u8 (f j)) := by
  rw [cell_of_row w g j _ t _ h]; exact uarr_get n _ j hj
theorem HoldsU.frozen {w : World} {g : Nat} {t : TypeId} {n : Nat} {f : Nat → Int} (h : HoldsU w g t n f) (j : Nat) : w.frozen? ⟨g, j, none⟩ = false := frozen_of_row w g j _ t h
theorem uarr_set (n : Nat) (f : Nat → Int) (k : Nat) (v : Int) : (uarr n f).setIfInBounds k (.int .u8 v) = uarr n fun j => if j = k then v else f j := by
  unfold uarr; rw [varr_set]
  exact varr_congr fun i _ => by by_cases e : i = k <;> simp [e]
theorem HoldsU.set {w : World} {g : Nat} {t : TypeId} {n : Nat} {f : Nat → Int} (h : HoldsU w g t n f) (k : Nat) (v : Int) : HoldsU (w.setCell ⟨g, k, none⟩ (.int .u8 v)) g t n fun j => if j = k then v else f j := by
  unfold HoldsU; rw [heap_setCell_same w g k _ t _ h, uarr_set]
theorem HoldsU.other {w : World} {g : Nat} {t : TypeId} {n : Nat} {f : Nat → Int} (h : HoldsU w g t n f) {a : Addr} (ha : g ≠ a.block) (v : Value) : HoldsU (w.setCell a v) g t n f := by
  unfold HoldsU; rw [heap_setCell_other w a g v ha]; exact h
theorem HoldsU.congr {w : World} {g : Nat} {t : TypeId} {n : Nat} {f k : Nat → Int} (h : HoldsU w g t n f) (e : ∀ i, i < n → f i = k i) : HoldsU w g t n k := by
  unfold HoldsU at *; rw [h, uarr_congr e]
theorem HoldsU.lt {w : World} {g : Nat} {t : TypeId} {n : Nat} {f : Nat → Int} (h : HoldsU w g t n f) : g < w.heap.size := (Array.getElem?_eq_some_iff.1 h).1
theorem HoldsU.setRow {w : World} {g : Nat} {t : TypeId} {n : Nat} {f : Nat → Int} (h : HoldsU w g t n f) (k : Nat → Int) : HoldsU (w.setRow g (uarr n k)) g t n k := setRow_heap w g _ _ t _ h
theorem HoldsU.keeps {S : Nat → Prop} {w w' : World} {g : Nat} {t : TypeId} {n : Nat} {f : Nat → Int} (h : HoldsU w g t n f) (o : Only S w w') (hs : ¬ S g) : HoldsU w' g t n f := o.keeps hs h

theorem below_drewN {B : Nat} {a w : World} (h : Below B a w) (n : Nat) : Below B a (w.drewN n) := ⟨h.os, h.tape, h.output, h.size, h.block⟩
theorem HoldsU.drewN {w : World} {g : Nat} {t : TypeId} {n : Nat} {f : Nat → Int} (h : HoldsU w g t n f) (k : Nat) : HoldsU (w.drewN k) g t n f := h

theorem zero8 : (#[.int .u8 0, .int .u8 0, .int .u8 0, .int .u8 0, .int .u8 0, .int .u8 0, .int .u8 0, .int .u8 0] : Array Value) = uarr 8 fun _ => 0 := rfl
theorem size8 : (Tryz.prog.info? 114).map (·.size) = some 8 := by kernel_rfl
theorem sizeU8 (w : World) : (sizeOf 5).run Tryz.prog w = .ok 1 w := Tryz.sizeOf5 w

theorem index_uarr8 (f : Nat → Int) (k : Nat) (hk : k < 8) (w : World) : (Instr.index 114 (.agg (uarr 8 f)) (.int .i64 k)).run Tryz.prog w = .ok (.int .u8 (f k)) w := by
  have hg : (uarr 8 f)[k]? = some (.int .u8 (f k)) := uarr_get 8 _ k hk
  have h1 : (0 : Int) ≤ k ∧ (k : Int) < ((8 : Nat) : Int) := by omega
  simp only [Instr.index, Sem.run_bind, asIntOf, Sem.run_pure, Result.andThen_ok, run_underlying Tryz.underlying114 w]
  rw [if_pos h1]
  simp [Sem.run_bind, sizeU8 w, part, hg]

set_option maxHeartbeats 1000000 in
set_option maxRecDepth 100000 in
theorem number_any (m : Int → Int) (x : Int) (hm : Bytey m) (w : World) :
    Calls Tryz.prog 70 #[.agg (uarr 8 fun i => m (x + i))] w fun e w' => e = .returned (.int .u64 (rdN m x 8)) ∧ Below w.heap.size w w' := by
  have h1 : HoldsU (w.alloc (.cells (uarr 8 fun i => m (x + i)) 114)) w.heap.size 114 8 (fun i => m (x + i)) := heap_alloc_new w _
  have HM := Lib.hid hm
  have HB : Hid (Below w.heap.size w (w.alloc (.cells (uarr 8 fun i => m (x + i)) 114))) := Lib.hid ((Below.refl _ _).alloc (Nat.le_refl _) _)
  have H1 := Lib.hid h1
  clear hm h1
  go_enter Tryz.func70, Tryz.ntmps70
  go_wp2_with (refine wpList_load_row rfl _ _ rfl w.heap.size rfl 114 _ _ _ H1.out Tryz.underlying114 rfl ?_ ?_; · exact size8.trans (by rw [uarr_size]))
  generalize (w.alloc (.cells (uarr 8 fun i => m (x + i)) 114)) = w1 at *
  go_loop [3, 7] (fun v i => ∃ k : Nat, k ≤ 8 ∧ i = .int .i64 k ∧ v = .int .u64 (rdN m x k)) (fun _ i => 8 - (intOf i).toNat)
  case atStart => exact ⟨0, Nat.zero_le _, rfl, rfl⟩
  case round =>
    obtain ⟨k, hk, rfl, rfl⟩ := hrel
    by_cases hlt : k < 8
    · have HI := index_uarr8 (fun i => m (x + i)) k hlt w1
      have y0 := (HM.out (x + k)).1
      have y1 := (HM.out (x + k)).2
      have r := rdN_in HM.out x k
      have HP := Lib.hid (put_byte hlt r.1 r.2 y0 y1)
      have HS := Lib.hid (rdN_snoc m x k)
      have HV := (rdN_8 HM.out x (c := k) (by omega))
      have HV2 : Hid (In64 (rdN m x k)) := Lib.hid (by unfold In64; omega)
      clear r HV
      go_wp2_with (go_at_call 116; refine (put_any _ _ _ _ HV2.out _).mono ?_; rintro e w2 ⟨rfl, rfl⟩)
      go_round
      case rel => exact ⟨k + 1, by omega, by go_num, by rw [HS.out, ← HP.out]⟩
      case measure => simp [intOf]; omega
    · obtain rfl : k = 8 := by omega
      go_wp2
      go_ret
      exact ⟨rfl, HB.out⟩

/-- The eight bytes of a word. -/
def leB (v : Int) (i : Nat) : Int := v / 256 ^ i % 256
theorem leB_in (v : Int) (i : Nat) : 0 ≤ leB v i ∧ leB v i ≤ 255 := by unfold leB; omega

set_option maxHeartbeats 1000000 in
set_option maxRecDepth 100000 in
theorem littleEnd_any (v : Int) (hv : In64 v) (w : World) :
    Calls Tryz.prog 71 #[.int .u64 v] w fun e w' => e = .returned (.agg (uarr 8 (leB v))) ∧ Below w.heap.size w w' := by
  have HV := Lib.hid hv
  clear hv
  go_enter Tryz.func71, Tryz.ntmps71
  go_wp2
  simp only [zero8]
  go_loopw [5] (fun i wr => ∃ k : Nat, k ≤ 8 ∧ i = .int .i64 k ∧ HoldsU wr w.heap.size 114 8 (fun _ => 0) ∧ HoldsU wr (w.heap.size + 1) 114 8 (fun j => if j < k then leB v j else 0) ∧ Below w.heap.size w wr)
    (fun i _ => 8 - (intOf i).toNat)
  case atStart =>
    refine ⟨0, Nat.zero_le _, rfl, heap_alloc2_old w _ _, (heap_alloc2_new w _ _).trans ?_, ((Below.refl _ _).alloc (Nat.le_refl _) _).alloc (by simp) _⟩
    simp
  case round =>
    obtain ⟨k, hk, rfl, h1, h2, hb⟩ := hrel
    by_cases hlt : k < 8
    · have hc := h2.cell hlt
      have hf := h2.frozen k
      have HL := Lib.hid (field_byte HV.out hlt)
      have l0 := (leB_in v k).1
      have l1 := (leB_in v k).2
      have HW : Hid (IntKind.u8.wrap (leB v k) = leB v k) := Lib.hid (by rw [IntKind.wrap_u8]; omega)
      have H1 := Lib.hid h1
      have H2 := Lib.hid h2
      have HB := Lib.hid hb
      clear h1 h2 hb
      go_wp2_with (go_at_call 117; refine (field_any _ _ _ HV.out _).mono ?_; rintro e w2 ⟨rfl, n, rfl⟩; rw [HL.out])
      refine ⟨⟨k + 1, by omega, by go_num, (H1.out.drewN n).other (by simp) _, ((H2.out.drewN n).set k _).congr fun i hi => ?_, (below_drewN HB.out n).setCell (by simp) _⟩, by simp [intOf]; omega⟩
      by_cases e : i = k
      · subst e; rw [if_pos rfl, if_pos (by omega)]; rfl
      · simp only [e, if_false]
        by_cases c : i < k
        · rw [if_pos c, if_pos (by omega)]
        · rw [if_neg c, if_neg (by omega)]
    · obtain rfl : k = 8 := by omega
      have h3 : HoldsU wr (w.heap.size + 1) 114 8 (leB v) := h2.congr fun i hi => by rw [if_pos hi]
      have HB := Lib.hid hb
      have H1 := Lib.hid h1
      have H3 := Lib.hid h3
      clear h2 h1 hb h3
      go_wp2_with (first
        | (refine wpList_load_row rfl _ _ rfl (w.heap.size + 1) rfl 114 _ _ _ H3.out Tryz.underlying114 rfl ?_ ?_; · exact size8.trans (by rw [uarr_size]))
        | (refine wpList_store_row rfl _ _ _ rfl w.heap.size _ rfl rfl 114 _ H1.out ?_ (by rw [uarr_size, uarr_size]) (uarr_one _ _) ?_; · exact size8.trans (by rw [uarr_size])))
      refine bodyPost_ret (v := .agg (uarr 8 (leB v))) (results_cell_row (show Tryz.f71.results = #[.cell 2 114] by kernel_rfl) _ _ w.heap.size 114 _ _ _ rfl (H1.out.setRow _) Tryz.underlying114 rfl (size8.trans (by rw [uarr_size]))) rfl ⟨rfl, below_setRow HB.out (Nat.le_refl _) _⟩

/-- All of them are 0. -/
def noughts (xs : List Int) : Bool := xs.all fun x => x == 0
theorem noughts_iff {xs : List Int} : noughts xs = true ↔ ∀ i, i < xs.length → xs.getD i 0 = 0 := by
  unfold noughts
  rw [List.all_eq_true]
  constructor
  · intro h i hi
    have := h xs[i] (List.getElem_mem hi)
    simpa [List.getD, hi] using this
  · intro h x hx
    obtain ⟨i, hi, rfl⟩ := List.getElem_of_mem hx
    have := h i hi
    simpa [List.getD, hi] using this
theorem countZero (xs : List Int) (h : Bytes255 xs) : (((Lib.countByte (Lib.bytesOf xs) (0 : Int).toNat.toUInt8 : Nat) : Int) == (xs.length : Int)) = noughts xs := by
  rw [Bool.eq_iff_iff, noughts_iff, beq_iff_eq]
  unfold Lib.countByte Lib.bytesOf
  have e : (xs.map fun n => UInt8.ofNat n.toNat).length = xs.length := by simp
  rw [← e, Int.natCast_inj, List.count_eq_length]
  constructor
  · intro hh i hi0
    have hi : i < xs.length := by simpa using hi0
    have h1 := h i hi
    have h2 := hh (UInt8.ofNat xs[i].toNat) (List.mem_map.2 ⟨xs[i], List.getElem_mem hi, rfl⟩)
    have e2 : xs.getD i 0 = xs[i] := by simp [List.getD, hi]
    rw [e2] at h1 ⊢
    have h3 := congrArg UInt8.toNat h2
    simp at h3
    omega
  · intro hh b hb
    obtain ⟨x, hx, rfl⟩ := List.mem_map.1 hb
    obtain ⟨i, hi, rfl⟩ := List.getElem_of_mem hx
    have := hh i (by simpa using hi)
    have e2 : xs.getD i 0 = xs[i] := by simp [List.getD, hi]
    rw [e2] at this
    rw [this]
    try rfl

set_option maxHeartbeats 2000000 in
set_option maxRecDepth 1000000 in
theorem count_any (xs : List Int) (a : Addr) (c b2 : Nat) (d : Nat) (w : World) (hc : ∀ i, i < xs.length → w.cell? (a.add i) = some (.int .u8 (xs.getD i 0))) (hc2 : w.cell? ⟨b2, 0, none⟩ = some (.int .u8 0)) :
    Calls Tryz.prog 158 #[.slice (some a) xs.length c, .slice (some ⟨b2, 0, none⟩) 1 d] w fun e w' => e = .returned (.int .i64 (Lib.countByte (Lib.bytesOf xs) (0 : Int).toNat.toUInt8)) ∧ w = w' := by
  go_enter Tryz.func158, Tryz.ntmps158
  go_wp2
  rw [run_callFunc_extern Tryz.func172 (by kernel_rfl) (by kernel_rfl) (by kernel_rfl) (e := Extern.BytealgCount.count) (by kernel_rfl), Lib.run_countAt w a xs.length c xs rfl hc 0]
  simp only [Result.andThen]
  rw [Oper.upon_value]
  go_wp2
  go_ret
  exact ⟨rfl, rfl⟩

theorem isNought_any (g : Nat) (v : Value) (xs : List Int) (w : World) (h : ReadsIn .u8 g w v xs) (hb : Bytes255 xs) (h0 : xs ≠ []) :
    Calls Tryz.prog 140 #[v] w fun e w' => e = .returned (.bool (noughts xs)) ∧ Below w.heap.size w w' := by
  obtain ⟨a, c, rfl, hl, h⟩ := h
  obtain ⟨off, rfl, hg, hc⟩ := h.resolve_left h0
  have hc1 : ∀ i, i < xs.length → (w.alloc (.cells #[.int .u8 0] 5)).cell? ((⟨g, off, none⟩ : Addr).add i) = some (.int .u8 (xs.getD i 0)) := fun i hi => by
    rw [add_none]
    exact (((Below.refl w.heap.size w).alloc (Nat.le_refl _) (.cells #[.int .u8 0] 5)).cell (p := ⟨g, off + i, none⟩) hg).trans (hc i hi)
  have HC := Lib.hid hc1
  have HZ := Lib.hid (countZero xs hb)
  have HL := Lib.hid hl
  clear hc hc1 hl h0 hb h
  go_enter Tryz.func140, Tryz.ntmps140
  go_wp2_with (go_at_call 158; refine (count_any xs _ c _ _ _ HC.out ?_).mono ?_; · simp [go_sem])
  rintro e w' ⟨rfl, rfl⟩
  go_wp2
  go_ret
  exact ⟨ret_bool HZ.out, (Below.refl _ _).alloc (Nat.le_refl _) _⟩

end Go.Proofs.YtbcnkhfpogglmaaGreatDoor.M3
