/- Layer 6: the program's uart: what came in is read, what is sent; reasons and the line's state are told; Feed, Waiting. -/
import Derived.Test.YtcbjfkbmbjmnbaaDoorUc
import Derived.StillTailTactics
namespace Go.Proofs.YtcbjfkbmbjmnbaaDoor
open Go.RowKit
set_option linter.unusedVariables false

theorem cut_full {w : World} {g off : Nat} {x : Int} {xs : List Int} (hb : Byt (x :: xs)) (hg : g < w.heap.size) (hc : ∀ j, j < (x :: xs).length → w.cell? ⟨g, off + j, none⟩ = some (.int .u8 ((x :: xs).getD j 0))) : RowB w (.slice (some ⟨g, off + 1, none⟩) xs.length xs.length) xs :=
  ⟨hb.tail, .inr ⟨g, off + 1, rfl, hg, fun j hj => by
    have := hc (j + 1) (by simp; omega)
    rw [show off + 1 + j = off + (j + 1) by omega, this]; simp⟩⟩
theorem cut_last {w : World} {g off : Nat} (hg : g < w.heap.size) : RowB w (.slice (some ⟨g, off, none⟩) 0 0) [] :=
  ⟨Byt.nil, .inr ⟨g, off, rfl, hg, fun j hj => absurd hj (by simp)⟩⟩

theorem run_cut (w : World) (g off n c : Nat) (h2 : 2 ≤ n) (hc : n ≤ c) (z : Int) (hz : z = n) : (Instr.slice 28 (.slice (some ⟨g, off, none⟩) n c) (some (.int .i64 1)) (some (.int .i64 z)) (some (.int .i64 z))).run Tryd.prog w = .ok (.slice (some ⟨g, off + 1, none⟩) (n - 1) (n - 1)) w := by
  subst hz
  rw [run_slice_lhm (t := 28) w (some ⟨g, off, none⟩) n c ?_ .i64 .i64 .i64 1 n n (by decide) (by omega) (by omega) (by omega)]
  · have hs : (sizeOf (Tryd.prog.elem 28)).run Tryd.prog w = .ok 1 w := by kernel_rfl
    rw [hs]
    simp [sliced, Addr.add]
    omega
  · kernel_rfl

/-- What next answers. -/
def NextU (w : World) (b : Nat) (F : Nat → Prop) (t : US) (e : Ending) (w' : World) : Prop := e = .returned (.int .u8 (t.inn.getD 0 0)) ∧ EndU cellsP 52 w b F { t with inn := t.inn.tail } w'
set_option maxHeartbeats 2000000 in
theorem next_any (w : World) (b : Nat) (F : Nat → Prop) (t : US) (vi vo : Value) (h : HP w b F t vi vo) :
    Calls Tryd.prog 31 #[.pointer (some ⟨b, 0, none⟩)] w (NextU w b F t) := by
  have hlen := h.ok.li
  obtain ⟨a, c, rfl, hnc, hcm, hr⟩ := h.ri.reads (by omega)
  obtain ⟨c0, _, _, _⟩ := h.pcells
  have f0 := h.free 0
  obtain ⟨inn, out, ier, fcr, lcr, mcr, scr, dl, dm, lost, sent⟩ := t
  simp only at hlen hr c0 hnc
  cases inn with
  | nil =>
    have H := Lib.hid h
    clear h hr
    go_enter Tryd.func31, Tryd.ntmps31
    go_wp2
    go_ret
    exact ⟨rfl, EndU.refl H.out⟩
  | cons x xs =>
    rcases hr with ⟨_, _, h0⟩ | ⟨g, off, rfl, hg, hc⟩
    · cases h0
    have cx : w.cell? ⟨g, off, none⟩ = some (.int .u8 x) := by have := hc 0 (by simp); simpa using this
    have HC := Lib.hid hc
    have HB := Lib.hid h.ri.byt
    have H := Lib.hid h
    have OK := Lib.hid h.ok
    clear h hc
    have hnb : ¬ (some b = some g) := fun e => by
      obtain rfl := Option.some.inj e
      exact (H.out.fi b rfl).2 rfl
    clear hnb
    cases xs with
    | nil =>
      have hnc1 : (1 : Int) ≤ (c : Int) := by simp at hnc; omega
      simp only [List.length_cons, List.length_nil, Nat.zero_add] at H c0
      clear hnc hlen
      go_enter Tryd.func31, Tryd.ntmps31
      go_wp2
      go_still_tail 18, (by kernel_rfl)
      change wpList _ _ _ _ _ w.drew
      have O2 : Only (fun i => (Value.slice (some ⟨g, off, none⟩) 1 c).ownBlock = some i) w w.drew := (Only.refl _ w).drewN 1
      have f2 : w.drew.frozen? ⟨b, 0, none⟩ = false := f0
      have d0 : ∃ v, w.drew.cell? ⟨b, 0, none⟩ = some v := ⟨_, c0⟩
      have HO := Lib.hid O2
      have hg2 : g < w.drew.heap.size := hg
      clear O2 f0 c0
      generalize w.drew = w2 at *
      obtain ⟨v0, d0⟩ := d0
      go_wp2
      go_ret
      exact ⟨rfl, EndU.turnIn (t' := ⟨[], out, ier, fcr, lcr, mcr, scr, dl, dm, lost, sent⟩) H.out HO.out (cut_last hg2) (fun g hg => .inl hg) rfl ⟨by simp, OK.out.lo, OK.out.ier, OK.out.fcr, OK.out.lcr, OK.out.mcr, OK.out.scr, OK.out.dl, OK.out.dm⟩ rfl⟩
    | cons y ys =>
      have hlen2 : ys.length ≤ 14 := by simp at hlen; omega
      have hcut : ∀ wr, (Instr.slice 28 (.slice (some ⟨g, off, none⟩) (ys.length + 1 + 1) c) (some (.int .i64 1)) (some (.int .i64 ((ys.length : Int) + 1 + 1))) (some (.int .i64 ((ys.length : Int) + 1 + 1)))).run Tryd.prog wr = .ok (.slice (some ⟨g, off + 1, none⟩) (ys.length + 1) (ys.length + 1)) wr :=
        fun wr => run_cut wr g off (ys.length + 1 + 1) c (by omega) (by simpa using hnc) _ (by omega)
      clear hnc hlen
      go_enter Tryd.func31, Tryd.ntmps31
      go_wp2
      go_still_tail 18, (by kernel_rfl)
      change wpList _ _ _ _ _ w.drew
      have O2 : Only (fun i => (Value.slice (some ⟨g, off, none⟩) (ys.length + 1 + 1) c).ownBlock = some i) w w.drew := (Only.refl _ w).drewN 1
      have f2 : w.drew.frozen? ⟨b, 0, none⟩ = false := f0
      have d0 : ∃ v, w.drew.cell? ⟨b, 0, none⟩ = some v := ⟨_, c0⟩
      have HO := Lib.hid O2
      have HR2 : Hid (RowB w.drew (.slice (some ⟨g, off + 1, none⟩) (ys.length + 1) (ys.length + 1)) (y :: ys)) := Lib.hid (cut_full HB.out hg HC.out)
      clear O2 f0 c0
      generalize w.drew = w2 at *
      obtain ⟨v0, d0⟩ := d0
      go_wp2
      go_ret
      exact ⟨rfl, EndU.turnIn (t' := ⟨y :: ys, out, ier, fcr, lcr, mcr, scr, dl, dm, lost, sent⟩) H.out HO.out HR2.out (fun g hg => .inl hg) rfl ⟨by simp; omega, OK.out.lo, OK.out.ier, OK.out.fcr, OK.out.lcr, OK.out.mcr, OK.out.scr, OK.out.dl, OK.out.dm⟩ rfl⟩

end Go.Proofs.YtcbjfkbmbjmnbaaDoor
