/- Joined: BuO BuP BuTab -/
import Derived.Test.YtgiehenaicpiaaaGreatDoorMZ8
import Derived.Test.YtgiehenaicpiaaaGreatDoorMZ6
import Derived.Test.YtgiehenaicpiaaaGreatDoorMZ7
namespace Go.Proofs.YtgiehenaicpiaaaGreatDoor
open Go.RowKit
set_option linter.unusedVariables false
set_option maxRecDepth 100000

/-- A bus that the law made itself: it stands in the world w, nothing that was there when the law began has turned. -/
def OwnB (w0 : World) (b g : Nat) (vp : Value) (ul : List Nat) (st : BS) (w : World) : Prop := Below w0.heap.size w0 w ∧ ∃ K, (∀ i, ¬ K i = 0 → w0.heap.size ≤ i) ∧ BusP w b K g vp ul st
section
variable {w0 w w' : World} {b g : Nat} {vp : Value} {ul : List Nat} {st : BS}
theorem OwnB.later (h : OwnB w0 b g vp ul st w) (o : Below w.heap.size w w') : OwnB w0 b g vp ul st w' := by
  obtain ⟨hb, K, hk, hp⟩ := h
  exact ⟨hb.trans (o.mono hb.size), K, hk, hp.below o⟩
theorem OwnB.out (h : OwnB w0 b g vp ul st w) : Below w0.heap.size w0 w := h.1
theorem OwnB.after {K : Nat → Nat} {r : Value} {st' : BS} {e : Ending} (hb : Below w0.heap.size w0 w) (hk : ∀ i, ¬ K i = 0 → w0.heap.size ≤ i) (hp : BusP w b K g vp ul st) (k : BusEnd w b K g vp ul r st' e w') : OwnB w0 b g vp ul st' w' := by
  obtain ⟨_, o, K', hg, hp'⟩ := k
  refine ⟨hb.trans (o.below (fun i hi => hk i hi) hb.size), K', fun i hi => ?_, hp'⟩
  by_cases c : i < w.heap.size
  · exact hk i (by rw [← hg i c]; exact hi)
  · have := hb.size; omega
def EndB (w0 : World) (b g : Nat) (vp : Value) (ul : List Nat) (r : Value) (st' : BS) (e : Ending) (w' : World) : Prop := e = .returned r ∧ OwnB w0 b g vp ul st' w'
theorem ownWrite (h : OwnB w0 b g vp ul st w) (a n v : Int) (ha : In64 a) (hv : In64 v) : Calls Tryz.prog 9 #[.pointer (some ⟨b, 0, none⟩), .int .u64 a, .int .i64 n, .int .u64 v] w (EndB w0 b g vp ul (.bool (busWr st a n v).1) (busWr st a n v).2) := by
  obtain ⟨hb, K, hk, hp⟩ := h
  exact (busWrite_any hp a n v ha hv).mono fun e w' k => ⟨k.1, OwnB.after hb hk hp k⟩
theorem ownRead (h : OwnB w0 b g vp ul st w) (a n : Int) (ha : In64 a) : Calls Tryz.prog 8 #[.pointer (some ⟨b, 0, none⟩), .int .u64 a, .int .i64 n] w (EndB w0 b g vp ul (.tuple #[.int .u64 (busRd st a n).1, .bool (busRd st a n).2.1]) (busRd st a n).2.2) := by
  obtain ⟨hb, K, hk, hp⟩ := h
  exact (busRead_any hp a n ha).mono fun e w' k => ⟨k.1, OwnB.after hb hk hp k⟩
theorem ownFeed (h : OwnB w0 b g vp ul st w) (i x : Int) (hx : 0 ≤ x ∧ x < 256) : Calls Tryz.prog 13 #[.pointer (some ⟨b, 0, none⟩), .int .i64 i, .int .u8 x] w (EndB w0 b g vp ul (.bool (busFd st i x).1) (busFd st i x).2) := by
  obtain ⟨hb, K, hk, hp⟩ := h
  exact (busFeed_any hp i x hx).mono fun e w' k => ⟨k.1, OwnB.after hb hk hp k⟩
theorem ownLevel (h : OwnB w0 b g vp ul st w) (s : Int) (u : Bool) (hs : In63 s) : Calls Tryz.prog 14 #[.pointer (some ⟨b, 0, none⟩), .int .i64 s, .bool u] w (EndB w0 b g vp ul (.bool (busLv st s u).1) (busLv st s u).2) := by
  obtain ⟨hb, K, hk, hp⟩ := h
  exact (busLevel_any hp s u hs).mono fun e w' k => ⟨k.1, OwnB.after hb hk hp k⟩
theorem ownTick (h : OwnB w0 b g vp ul st w) (n : Int) (hn : In64 n) : Calls Tryz.prog 11 #[.pointer (some ⟨b, 0, none⟩), .int .u64 n] w fun e w' => (∃ u, e = .returned u) ∧ OwnB w0 b g vp ul (busTk st n) w' := by
  obtain ⟨hb, K, hk, hp⟩ := h
  exact (busTick_any hp n hn).mono fun e w' k => by
    obtain ⟨u, k⟩ := k
    exact ⟨⟨u, k.1⟩, OwnB.after hb hk hp k⟩
theorem ownLines (h : OwnB w0 b g vp ul st w) : Calls Tryz.prog 12 #[.pointer (some ⟨b, 0, none⟩)] w (EndB w0 b g vp ul (linesV st) st) := by
  obtain ⟨_, K, _, hp⟩ := id h
  exact (busLines_any hp).mono fun e w' k => ⟨k.1, h.later k.2⟩
theorem ownIsRam (h : OwnB w0 b g vp ul st w) (a n : Int) (ha : In64 a) : Calls Tryz.prog 10 #[.pointer (some ⟨b, 0, none⟩), .int .u64 a, .int .i64 n] w (EndB w0 b g vp ul (.bool (M3.okN n && M3.hasZ 2147483648 st.size a n)) st) := by
  obtain ⟨_, K, _, hp⟩ := id h
  exact (busIsRam_any hp a n ha).mono fun e w' k => ⟨k.1, h.later k.2⟩
theorem ownOut (h : OwnB w0 b g vp ul st w) (i : Int) : Calls Tryz.prog 17 #[.pointer (some ⟨b, 0, none⟩), .int .i64 i] w fun e w' => OwnB w0 b g vp ul st w' ∧ OutE w (busOt st.us i) e w' := by
  obtain ⟨_, K, _, hp⟩ := id h
  exact (busOut_any hp i).mono fun e w' k => ⟨by obtain ⟨a, c, _, hb, _⟩ := k; exact h.later hb, k⟩
theorem ownRam (h : OwnB w0 b g vp ul st w) : Calls Tryz.prog 16 #[.pointer (some ⟨b, 0, none⟩)] w fun e w' => e = .returned (.pointer (some ⟨g, 0, none⟩)) ∧ w = w' := by
  obtain ⟨_, K, _, hp⟩ := h
  exact busRam_any hp
/-- New, where it makes one. -/
theorem ownNew (w0 w : World) (hb : Below w0.heap.size w0 w) (tabs : Tabs w) (size n : Int) (hs : In64 size) (hok : busOk size n = true) : Calls Tryz.prog 7 #[.int .u64 size, .int .i64 n] w fun e w' => ∃ b g vp ul, e = .returned (.tuple #[.pointer (some ⟨b, 0, none⟩), .int .i64 0]) ∧ OwnB w0 b g vp ul (bs0 size n.toNat) w' :=
  (busNew_any w tabs size n hs).mono fun e w' k => by
    obtain ⟨h1, h2 | ⟨_, b, K, g, vp, ul, he, hk, hp⟩⟩ := k
    · rw [hok] at h2; cases h2.1
    · exact ⟨b, g, vp, ul, he, hb.trans (h1.mono hb.size), K, fun i hi => Nat.le_trans hb.size (hk i hi), hp⟩
theorem badNew (w : World) (tabs : Tabs w) (size n : Int) (hs : In64 size) (hok : busOk size n = false) : Calls Tryz.prog 7 #[.int .u64 size, .int .i64 n] w fun e w' => e = .returned (.tuple #[.pointer none, .int .i64 1]) ∧ Below w.heap.size w w' :=
  (busNew_any w tabs size n hs).mono fun e w' k => by
    obtain ⟨h1, ⟨_, he⟩ | h2⟩ := k
    · exact ⟨he, h1⟩
    · rw [hok] at h2; cases h2.1
end

/-! ### awake -/
def aw1 : BS := (busWr (bs0 4096 1) 2147487736 8 7).2
def aw2 : BS := (busWr aw1 268435457 1 1).2
def aw3 : BS := (busFd aw2 0 65).2
def aw4 : BS := (busWr aw3 201326632 4 1).2
def aw5 : BS := (busWr aw4 201334912 4 1024).2
def aw6 : BS := (busRd aw5 2147487736 8).2.2
theorem aw_ok : (busWr (bs0 4096 1) 2147487736 8 7).1 = true ∧ (busWr aw1 268435457 1 1).1 = true ∧ (busFd aw2 0 65).1 = true ∧ (busWr aw3 201326632 4 1).1 = true ∧ (busWr aw4 201334912 4 1024).1 = true ∧ (busRd aw5 2147487736 8).1 = 7 ∧ (busRd aw5 2147487736 8).2.1 = true ∧ (busRd aw6 203427844 4).1 = 10 ∧ (busRd aw6 203427844 4).2.1 = true := by
  refine ⟨?_, ?_, ?_, ?_, ?_, ?_, ?_, ?_, ?_⟩ <;> kernel_rfl

end Go.Proofs.YtgiehenaicpiaaaGreatDoor

namespace Go.Proofs.YtgiehenaicpiaaaGreatDoor
open Go.RowKit
set_option linter.unusedVariables false
set_option maxRecDepth 100000

set_option maxHeartbeats 2000000 in
theorem awake_any (w : World) (tabs : Tabs w) : Calls Tryz.prog 15 #[] w fun e w' => e = .returned (.bool true) ∧ Below w.heap.size w w' := by
  have HN := Lib.hid (ownNew w w (Below.refl _ _) tabs 4096 1 (by unfold In64; omega) (by decide))
  obtain ⟨r1, r2, r3, r4, r5, r6, r7, r8, r9⟩ := aw_ok
  have R1 := Lib.hid r1
  have R2 := Lib.hid r2
  have R3 := Lib.hid r3
  have R4 := Lib.hid r4
  have R5 := Lib.hid r5
  have R6 := Lib.hid r6
  have R7 := Lib.hid r7
  have R8 := Lib.hid r8
  have R9 := Lib.hid r9
  clear r1 r2 r3 r4 r5 r6 r7 r8 r9 tabs
  go_enter Tryz.func15, Tryz.ntmps15
  go_wp2_with fail
  (with_reducible refine HN.out.mono ?_)
  rintro e w0 ⟨b, g, vp, ul, rfl, ho⟩
  have HO0 : Hid (OwnB w b g vp ul (bs0 4096 1) w0) := Lib.hid ho
  clear ho HN
  go_wp2_with fail
  (with_reducible refine (ownWrite HO0.out 2147487736 8 7 (by unfold In64; omega) (by unfold In64; omega)).mono ?_)
  rintro e w1 ⟨rfl, ho⟩
  have HO1 : Hid (OwnB w b g vp ul aw1 w1) := Lib.hid ho
  clear ho
  rw [R1.out]
  go_wp2_with fail
  (with_reducible refine (ownWrite HO1.out 268435457 1 1 (by unfold In64; omega) (by unfold In64; omega)).mono ?_)
  rintro e w2 ⟨rfl, ho⟩
  have HO2 : Hid (OwnB w b g vp ul aw2 w2) := Lib.hid ho
  clear ho
  rw [R2.out]
  go_wp2_with fail
  (with_reducible refine (ownFeed HO2.out 0 65 (by omega)).mono ?_)
  rintro e w3 ⟨rfl, ho⟩
  have HO3 : Hid (OwnB w b g vp ul aw3 w3) := Lib.hid ho
  clear ho
  rw [R3.out]
  go_wp2_with fail
  (with_reducible refine (ownWrite HO3.out 201326632 4 1 (by unfold In64; omega) (by unfold In64; omega)).mono ?_)
  rintro e w4 ⟨rfl, ho⟩
  have HO4 : Hid (OwnB w b g vp ul aw4 w4) := Lib.hid ho
  clear ho
  rw [R4.out]
  go_wp2_with fail
  (with_reducible refine (ownWrite HO4.out 201334912 4 1024 (by unfold In64; omega) (by unfold In64; omega)).mono ?_)
  rintro e w5 ⟨rfl, ho⟩
  have HO5 : Hid (OwnB w b g vp ul aw5 w5) := Lib.hid ho
  clear ho
  rw [R5.out]
  go_wp2_with fail
  (with_reducible refine (ownRead HO5.out 2147487736 8 (by unfold In64; omega)).mono ?_)
  rintro e w6 ⟨rfl, ho⟩
  have HO6 : Hid (OwnB w b g vp ul aw6 w6) := Lib.hid ho
  clear ho
  rw [R6.out, R7.out]
  go_wp2_with fail
  (with_reducible refine (ownRead HO6.out 203427844 4 (by unfold In64; omega)).mono ?_)
  rintro e w7 ⟨rfl, ho⟩
  have HO7 : Hid (OwnB w b g vp ul (busRd aw6 203427844 4).2.2 w7) := Lib.hid ho
  clear ho
  rw [R8.out, R9.out]
  go_wp2
  go_ret
  exact ⟨rfl, HO7.out.out⟩

end Go.Proofs.YtgiehenaicpiaaaGreatDoor

namespace Go.Proofs.YtgiehenaicpiaaaGreatDoor
open Go.ChangeShapes Go.WideShapes Go.ChangeAt Go.RowKit
set_option linter.unusedVariables false
set_option maxRecDepth 100000

/-- The listed variables. -/
abbrev laidT : List (String × DataW Unit) := [("mezzanine/plic.groups", Rows.laid_mezzanine_plic_groups), ("mezzanine/uart.kept", Rows.laid_mezzanine_uart_kept)]
theorem door_met (os : Os) (args : Array Value) : laidMetH Tryz.prog laidT ((World.doorLaid Tryz.prog 400 os).forCall (fun _ _ => 0) ⟨#[], args, []⟩).memory :=
  laidMetH_of_parts3 (fuel := 8) (laidMet_of_run' 8 (by kernel_rfl) (by kernel_rfl)) (by kernel_rfl) (by kernel_rfl)
/-- What the condition gives. -/
theorem tab_of_laid {W : World} (h : laidMetH Tryz.prog laidT W) : Tabs W := by
  rw [MakeChecks.laidMetH_plain _ _ _ (by kernel_rfl)] at h
  obtain ⟨ps, ⟨g0, t0, cs0, f0, p0, q0, hg0, ht0, hv0, hd0, hr, hps⟩, hn, hc⟩ := h
  subst hps
  refine ⟨P5.tab_of_laid ?_, U6.tab_of_laid ?_⟩
  · rw [MakeChecks.laidMetH_plain _ _ _ (by kernel_rfl)]
    refine ⟨MemPlace.row ⟨g0, 0, none⟩ cs0.size ++ p0 ++ [], ⟨g0, t0, cs0, f0, p0, [], hg0, ht0, hv0, hd0, rfl, rfl⟩, ?_, fun b off hm => hc b off ?_⟩
    · rw [List.append_nil]; exact (List.nodup_append.1 hn).1
    · rw [List.append_nil] at hm; exact List.mem_append.2 (.inl hm)
  · rw [MakeChecks.laidMetH_plain _ _ _ (by kernel_rfl)]
    exact ⟨q0, hr, (List.nodup_append.1 hn).2.1, fun b off hm => hc b off (List.mem_append.2 (.inr hm))⟩

end Go.Proofs.YtgiehenaicpiaaaGreatDoor
