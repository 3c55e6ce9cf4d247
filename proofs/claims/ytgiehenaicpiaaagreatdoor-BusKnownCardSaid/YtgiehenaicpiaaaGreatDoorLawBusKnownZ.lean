/- Layer 7: BusKnown walked: the chapter's examples; the regions; a nil bus. -/
import Derived.Test.YtgiehenaicpiaaaGreatDoorMZ1
import Derived.Test.YtgiehenaicpiaaaGreatDoorMZ2
import Derived.Test.YtgiehenaicpiaaaGreatDoorMZ3
import Derived.Test.YtgiehenaicpiaaaGreatDoorMZ4
import Derived.Test.YtgiehenaicpiaaaGreatDoorMZ5
import Derived.Test.YtgiehenaicpiaaaGreatDoorMZ6
import Derived.Test.YtgiehenaicpiaaaGreatDoorMZ7
import Derived.Test.YtgiehenaicpiaaaGreatDoorMZ8
import Derived.Test.YtgiehenaicpiaaaGreatDoorMZ9
namespace Go.Proofs.YtgiehenaicpiaaaGreatDoor
open Go.RowKit
set_option linter.unusedVariables false
set_option maxRecDepth 100000

theorem sameNil_bus (w : World) : Calls Tryz.prog 19 #[.pointer none, .pointer none] w fun e w' => e = .returned (.bool true) ∧ w = w' := by
  go_enter Tryz.func19, Tryz.ntmps19
  go_wp2
  go_ret
  exact ⟨rfl, rfl⟩
theorem sameRight_bus (b : Nat) (w : World) : Calls Tryz.prog 19 #[.pointer (some ⟨b, 0, none⟩), .pointer none] w fun e w' => e = .returned (.bool false) ∧ w = w' := by
  go_enter Tryz.func19, Tryz.ntmps19
  go_wp2
  go_ret
  exact ⟨rfl, rfl⟩

def kn1 : BS := (busRd (bs0 4096 1) 2147487740 8).2.2
def kn2 : BS := (busRd kn1 2147487744 1).2.2
def kn3 : BS := (busRd kn2 2147483647 2).2.2
def kn4 : BS := (busRd kn3 2147483648 3).2.2
def kn5 : BS := (busRd kn4 268435464 1).2.2
def kn6 : BS := (busRd kn5 268439552 1).2.2
def kn7 : BS := (busWr kn6 33570816 8 5).2
def kn8 : BS := busTk kn7 5
def kn9 : BS := (busFd kn8 1 65).2
def kn10 : BS := (busLv kn9 10 true).2
def kn11 : BS := (busLv kn10 31 true).2
def kn12 : BS := (busLv kn11 11 true).2
def kn13 : BS := (busLv kn12 32 true).2
theorem kn_reads : (busRd (bs0 4096 1) 2147487740 8).2.1 = false ∧ (busRd kn1 2147487744 1).2.1 = false ∧ (busRd kn2 2147483647 2).2.1 = false ∧ (busRd kn3 2147483648 3).2.1 = false ∧ (busRd kn4 268435464 1).2.1 = false ∧ (busRd kn5 268439552 1).2.1 = false ∧ (busWr kn6 33570816 8 5).1 = true := by
  refine ⟨?_, ?_, ?_, ?_, ?_, ?_, ?_⟩ <;> kernel_rfl
theorem kn_isRam : (M3.okN 3 && M3.hasZ 2147483648 kn7.size 2147483648 3) = false ∧ (M3.okN 0 && M3.hasZ 2147483648 kn7.size 2147483648 0) = false ∧ (M3.okN 8 && M3.hasZ 2147483648 kn7.size 2147487736 8) = true := by
  refine ⟨?_, ?_, ?_⟩ <;> kernel_rfl
theorem kn_lines : linesV kn8 = .agg #[.bool false, .bool true, .bool false, .bool false, .int .u64 0, .int .u64 5] ∧ linesV kn11 = .agg #[.bool false, .bool true, .bool false, .bool false, .int .u64 2, .int .u64 5] := by
  refine ⟨?_, ?_⟩ <;> kernel_rfl
theorem kn_rest : (busFd kn8 1 65).1 = false ∧ (busLv kn9 10 true).1 = false ∧ (busLv kn10 31 true).1 = true ∧ (busLv kn11 11 true).1 = true ∧ (busLv kn12 32 true).1 = false := by
  refine ⟨?_, ?_, ?_, ?_, ?_⟩ <;> kernel_rfl
set_option maxHeartbeats 4000000 in
theorem busKnown_walk (w : World) (tabs : Tabs w) : Calls Tryz.prog 3 #[] w fun e w' => e = .returned (.bool true) ∧ Below w.heap.size w w' := by
  have HT := Lib.hid tabs
  obtain ⟨r1, r2, r3, r4, r5, r6, r7⟩ := kn_reads
  obtain ⟨i1, i2, i3⟩ := kn_isRam
  obtain ⟨l1, l2⟩ := kn_lines
  obtain ⟨s1, s2, s3, s4, s5⟩ := kn_rest
  have R1 := Lib.hid r1
  have R2 := Lib.hid r2
  have R3 := Lib.hid r3
  have R4 := Lib.hid r4
  have R5 := Lib.hid r5
  have R6 := Lib.hid r6
  have R7 := Lib.hid r7
  have I1 := Lib.hid i1
  have I2 := Lib.hid i2
  have I3 := Lib.hid i3
  have L1 := Lib.hid l1
  have L2 := Lib.hid l2
  have S1 := Lib.hid s1
  have S2 := Lib.hid s2
  have S3 := Lib.hid s3
  have S4 := Lib.hid s4
  have S5 := Lib.hid s5
  clear r1 r2 r3 r4 r5 r6 r7 i1 i2 i3 l1 l2 s1 s2 s3 s4 s5 tabs
  go_enter Tryz.func3, Tryz.ntmps3
  go_wp2_with fail
  (with_reducible refine (badNew _ (HT.out.below (Below.refl w.heap.size w)) 0 1 (by unfold In64; omega) (by decide)).mono ?_)
  rintro e v1 ⟨rfl, hb⟩
  have HB1 : Hid (Below w.heap.size w v1) := Lib.hid (Below.trans (Below.refl w.heap.size w) (hb.mono (Below.size (Below.refl w.heap.size w))))
  clear hb
  go_wp2_with fail
  (with_reducible refine (badNew _ (HT.out.below HB1.out) 4096 9 (by unfold In64; omega) (by decide)).mono ?_)
  rintro e v2 ⟨rfl, hb⟩
  have HB2 : Hid (Below w.heap.size w v2) := Lib.hid (Below.trans HB1.out (hb.mono (Below.size HB1.out)))
  clear hb
  go_wp2_with fail
  (with_reducible refine (badNew _ (HT.out.below HB2.out) 4096 (-1) (by unfold In64; omega) (by decide)).mono ?_)
  rintro e v3 ⟨rfl, hb⟩
  have HB3 : Hid (Below w.heap.size w v3) := Lib.hid (Below.trans HB2.out (hb.mono (Below.size HB2.out)))
  clear hb
  go_wp2_with fail
  (with_reducible refine (ownNew w _ HB3.out (HT.out.below HB3.out) 67108864 8 (by unfold In64; omega) (by decide)).mono ?_)
  rintro e v4 ⟨b4, g4, vp4, ul4, rfl, ho⟩
  have HB4 : Hid (Below w.heap.size w v4) := Lib.hid ho.out
  clear ho
  go_wp2_with fail
  (with_reducible refine (ownNew w _ HB4.out (HT.out.below HB4.out) 4096 1 (by unfold In64; omega) (by decide)).mono ?_)
  rintro e w0 ⟨b, g, vp, ul, rfl, ho⟩
  have HO0 : Hid (OwnB w b g vp ul (bs0 4096 1) w0) := Lib.hid ho
  clear ho HB1 HB2 HB3 HB4
  go_wp2_with fail
  (with_reducible refine (ownRead HO0.out 2147487740 8 (by unfold In64; omega)).mono ?_)
  rintro e w1 ⟨rfl, ho⟩
  have HO1 : Hid (OwnB w b g vp ul kn1 w1) := Lib.hid ho
  clear ho
  rw [R1.out]
  go_wp2_with fail
  (with_reducible refine (ownRead HO1.out 2147487744 1 (by unfold In64; omega)).mono ?_)
  rintro e w2 ⟨rfl, ho⟩
  have HO2 : Hid (OwnB w b g vp ul kn2 w2) := Lib.hid ho
  clear ho
  rw [R2.out]
  go_wp2_with fail
  (with_reducible refine (ownRead HO2.out 2147483647 2 (by unfold In64; omega)).mono ?_)
  rintro e w3 ⟨rfl, ho⟩
  have HO3 : Hid (OwnB w b g vp ul kn3 w3) := Lib.hid ho
  clear ho
  rw [R3.out]
  go_wp2_with fail
  (with_reducible refine (ownRead HO3.out 2147483648 3 (by unfold In64; omega)).mono ?_)
  rintro e w4 ⟨rfl, ho⟩
  have HO4 : Hid (OwnB w b g vp ul kn4 w4) := Lib.hid ho
  clear ho
  rw [R4.out]
  go_wp2_with fail
  (with_reducible refine (ownRead HO4.out 268435464 1 (by unfold In64; omega)).mono ?_)
  rintro e w5 ⟨rfl, ho⟩
  have HO5 : Hid (OwnB w b g vp ul kn5 w5) := Lib.hid ho
  clear ho
  rw [R5.out]
  go_wp2_with fail
  (with_reducible refine (ownRead HO5.out 268439552 1 (by unfold In64; omega)).mono ?_)
  rintro e w6 ⟨rfl, ho⟩
  have HO6 : Hid (OwnB w b g vp ul kn6 w6) := Lib.hid ho
  clear ho
  rw [R6.out]
  go_wp2_with fail
  (with_reducible refine (ownWrite HO6.out 33570816 8 5 (by unfold In64; omega) (by unfold In64; omega)).mono ?_)
  rintro e w7 ⟨rfl, ho⟩
  have HO7 : Hid (OwnB w b g vp ul kn7 w7) := Lib.hid ho
  clear ho
  rw [R7.out]
  go_wp2_with fail
  (with_reducible refine (ownIsRam HO7.out 2147483648 3 (by unfold In64; omega)).mono ?_)
  rintro e w8 ⟨rfl, ho⟩
  have HO8 : Hid (OwnB w b g vp ul kn7 w8) := Lib.hid ho
  clear ho
  rw [I1.out]
  go_wp2_with fail
  (with_reducible refine (ownIsRam HO8.out 2147483648 0 (by unfold In64; omega)).mono ?_)
  rintro e w9 ⟨rfl, ho⟩
  have HO9 : Hid (OwnB w b g vp ul kn7 w9) := Lib.hid ho
  clear ho
  rw [I2.out]
  go_wp2_with fail
  (with_reducible refine (ownIsRam HO9.out 2147487736 8 (by unfold In64; omega)).mono ?_)
  rintro e w10 ⟨rfl, ho⟩
  have HO10 : Hid (OwnB w b g vp ul kn7 w10) := Lib.hid ho
  clear ho
  rw [I3.out]
  go_wp2_with fail
  (with_reducible refine (ownTick HO10.out 5 (by unfold In64; omega)).mono ?_)
  rintro e w11 ⟨⟨u11, rfl⟩, ho⟩
  have HO11 : Hid (OwnB w b g vp ul kn8 w11) := Lib.hid ho
  clear ho
  go_wp2_with fail
  (with_reducible refine (ownLines HO11.out).mono ?_)
  rintro e w12 ⟨rfl, ho⟩
  have HO12 : Hid (OwnB w b g vp ul kn8 w12) := Lib.hid ho
  clear ho
  rw [L1.out]
  go_wp2_with fail
  (with_reducible refine (ownFeed HO12.out 1 65 (by omega)).mono ?_)
  rintro e w13 ⟨rfl, ho⟩
  have HO13 : Hid (OwnB w b g vp ul kn9 w13) := Lib.hid ho
  clear ho
  rw [S1.out]
  go_wp2_with fail
  (with_reducible refine (ownLevel HO13.out 10 true (by unfold In63; omega)).mono ?_)
  rintro e w14 ⟨rfl, ho⟩
  have HO14 : Hid (OwnB w b g vp ul kn10 w14) := Lib.hid ho
  clear ho
  rw [S2.out]
  go_wp2_with fail
  (with_reducible refine (ownLevel HO14.out 31 true (by unfold In63; omega)).mono ?_)
  rintro e w15 ⟨rfl, ho⟩
  have HO15 : Hid (OwnB w b g vp ul kn11 w15) := Lib.hid ho
  clear ho
  rw [S3.out]
  go_wp2_with fail
  (with_reducible refine (ownLines HO15.out).mono ?_)
  rintro e w16 ⟨rfl, ho⟩
  have HO16 : Hid (OwnB w b g vp ul kn11 w16) := Lib.hid ho
  clear ho
  rw [L2.out]
  go_wp2_with fail
  (with_reducible refine (ownLevel HO16.out 11 true (by unfold In63; omega)).mono ?_)
  rintro e w17 ⟨rfl, ho⟩
  have HO17 : Hid (OwnB w b g vp ul kn12 w17) := Lib.hid ho
  clear ho
  rw [S4.out]
  go_wp2_with fail
  (with_reducible refine (ownLevel HO17.out 32 true (by unfold In63; omega)).mono ?_)
  rintro e w18 ⟨rfl, ho⟩
  have HO18 : Hid (OwnB w b g vp ul kn13 w18) := Lib.hid ho
  clear ho
  rw [S5.out]
  go_wp2_with fail
  refine (tick_none_bus _ _).mono ?_
  rintro e w' ⟨⟨uu, rfl⟩, rfl⟩
  go_wp2_with fail
  refine (read_none_bus _ _ _).mono ?_
  rintro e w' ⟨rfl, rfl⟩
  go_wp2_with fail
  (with_reducible refine (awake_any _ (HT.out.below HO18.out.out)).mono ?_)
  rintro e x1 ⟨rfl, hb⟩
  have HX1 : Hid (Below w.heap.size w x1) := Lib.hid (HO18.out.out.trans (hb.mono HO18.out.out.size))
  clear hb
  go_wp2_with fail
  refine (write_none_bus _ _ _ _).mono ?_
  rintro e w' ⟨rfl, q2, rfl⟩
  have HX2 : Hid (Below w.heap.size w (x1.drewN q2)) := Lib.hid (P5.below_drewN HX1.out _)
  generalize x1.drewN q2 = x2 at *
  go_wp2_with fail
  refine (isRam_none_bus _ _ _).mono ?_
  rintro e w' ⟨rfl, rfl⟩
  go_wp2_with fail
  refine (ram_none_bus _).mono ?_
  rintro e w' ⟨rfl, rfl⟩
  go_wp2_with fail
  refine (feed_none_bus _ _ _).mono ?_
  rintro e w' ⟨rfl, rfl⟩
  go_wp2_with fail
  refine (level_none_bus _ _ _).mono ?_
  rintro e w' ⟨rfl, rfl⟩
  go_wp2_with fail
  refine (out_none_bus _ _).mono ?_
  rintro e x3 ⟨a3, c3, rfl, hb, hr⟩
  have HX3 : Hid (Below w.heap.size w x3) := Lib.hid (HX2.out.trans (hb.mono HX2.out.size))
  clear hb hr
  simp only [List.length_nil]
  go_wp2_with fail
  refine (lines_none_bus _).mono ?_
  rintro e x4 ⟨rfl, hb⟩
  have HX4 : Hid (Below w.heap.size w x4) := Lib.hid (HX3.out.trans (hb.mono HX3.out.size))
  clear hb
  go_wp2_with fail
  refine (twin_none_bus _).mono ?_
  rintro e w' ⟨rfl, rfl⟩
  go_wp2_with fail
  refine (sameNil_bus _).mono ?_
  rintro e w' ⟨rfl, rfl⟩
  go_wp2_with fail
  refine (sameRight_bus _ _).mono ?_
  rintro e w' ⟨rfl, rfl⟩
  go_wp2
  go_ret
  exact ⟨rfl, HX4.out⟩

end Go.Proofs.YtgiehenaicpiaaaGreatDoor
