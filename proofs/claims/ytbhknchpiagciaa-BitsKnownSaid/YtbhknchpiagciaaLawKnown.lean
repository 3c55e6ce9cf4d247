/- The walk of BitsKnown: the chapter's examples. -/
import Derived.Test.YtbhknchpiagciaaLawOnes
namespace Go.Proofs.Ytbhknchpiagciaa
open Go.RowKit
set_option linter.unusedVariables false

set_option maxHeartbeats 2000000 in
theorem bitsKnown_walk (w : World) :
    Calls Try.prog 3 #[] w fun e w' => e = .returned (.bool true) ∧ Below w.heap.size w w' := by
  have HB : Below w.heap.size w w := Below.refl _ _
  have u1 : upZ 5 4 = (8, true) := by decide
  have u2 : upZ 0 4096 = (0, true) := by decide
  have u3 : upZ 1 0 = (0, false) := by decide
  have u4 : upZ 18446744073709551615 2 = (0, false) := by decide
  have m1 : U (maskB 3) = 7 := by decide +kernel
  have m2 : U (maskB 0) = 0 := by decide +kernel
  have m3 : U (maskB 99) = 18446744073709551615 := by decide +kernel
  have f1 : U (fieldB (V 43981) 60 9) = 0 := by decide +kernel
  have f2 : U (fieldB (V 1) 64 1) = 0 := by decide +kernel
  have p1 : U (putB (V 43981) 4 8 (V 274)) = 41261 := by decide +kernel
  have p2 : U (putB (V 0) 63 5 (V 3)) = 9223372036854775808 := by decide +kernel
  have p3 : U (putB (V 7) (-1) 3 (V 0)) = 7 := by decide +kernel
  have s1 : U (sextB (V 127) 8) = 127 := by decide +kernel
  have s2 : U (sextB (V 3) 0) = 0 := by decide +kernel
  have s3 : U (sextB (V 5) 64) = 5 := by decide +kernel
  have c1 : canonB (V 18446744073709551488) 8 = true := by decide +kernel
  have c2 : canonB (V 128) 8 = false := by decide +kernel
  have c3 : canonB (V 127) 8 = true := by decide +kernel
  have c4 : canonB (V 1) 0 = false := by decide +kernel
  have b1 : bitB (V 128) 7 = true := by decide +kernel
  have b2 : bitB (V 128) 8 = false := by decide +kernel
  have o1 : U (ofB [0, 3, 64]) = 9 := by decide +kernel
  have o2 : onesB (V 9) = [0, 3] := by decide +kernel
  go_enter Try.func3, Try.ntmps3
  go_wp2_with (first
    | (go_at_call 11; refine (up_any _ _ (by unfold In64; omega) (by unfold In64; omega) _).mono ?_; rintro e w' ⟨rfl, rfl⟩)
    | (go_at_call 12; refine (mask_any _ _).mono ?_; rintro e w' ⟨rfl, rfl⟩)
    | (go_at_call 13; refine (field_any _ _ _ (by unfold In64; omega) _).mono ?_; rintro e w' ⟨rfl, q, rfl⟩; replace HB := below_drewN HB q)
    | (go_at_call 14; refine (put_any _ _ _ _ (by unfold In64; omega) _).mono ?_; rintro e w' ⟨rfl, rfl⟩)
    | (go_at_call 16; refine (sext_any _ _ _).mono ?_; rintro e w' ⟨rfl, rfl⟩)
    | (go_at_call 17; refine (canon_any _ _ (by unfold In64; omega) _).mono ?_; rintro e w' ⟨rfl, rfl⟩)
    | (go_at_call 18; refine (bit8_any _ _ (by omega) (by omega) _).mono ?_; rintro e w' ⟨rfl, rfl⟩)
    | (go_at_call 15; refine (awake_any _).mono ?_; rintro e w2 ⟨rfl, hb2⟩; have hb3 := hb2.mono (B' := w.heap.size) (by simp); replace HB := Below.trans (by simpa using HB) hb3; clear hb2 hb3))
  refine (of_any _ [0, 3, 64] (w2.heap.size + 1) _ ?_).mono ?_
  · refine ⟨_, _, rfl, by decide, .inr ⟨w2.heap.size, 0, rfl, by omega, fun i hi => ?_⟩⟩
    match i, hi with
    | 0, _ => exact (World.cell?_alloc_at _ _ _ _ rfl)
    | 1, _ => exact (World.cell?_alloc_at _ _ _ _ rfl)
    | 2, _ => exact (World.cell?_alloc_at _ _ _ _ rfl)
  rintro e w' ⟨rfl, rfl⟩
  have HB2 := HB.alloc HB.size (.cells #[.int .i64 0, .int .i64 3, .int .i64 64] 3)
  go_wp2_with fail
  refine (ones_any 9 (by unfold In64; omega) _).mono ?_
  rintro e w3 ⟨v3, rfl, hown3, hb3⟩
  have r3 := ReadsL.own hown3
  have HB3 := HB2.trans (hb3.mono HB2.size)
  clear hown3
  rw [o2] at r3
  go_wp2_with fail
  refine (same_any v3 _ [0, 3] [0, 3] (w3.heap.size + 1) _ ((r3.below (B' := w3.heap.size) ((Below.refl _ _).alloc (Nat.le_refl _) _) (Nat.le_refl _)).mono (by omega)) ?_ (by simp)).mono ?_
  · refine ⟨_, _, rfl, by decide, .inr ⟨w3.heap.size, 0, rfl, by omega, fun i hi => ?_⟩⟩
    match i, hi with
    | 0, _ => exact (World.cell?_alloc_at _ _ _ _ rfl)
    | 1, _ => exact (World.cell?_alloc_at _ _ _ _ rfl)
  rintro e w4 ⟨rfl, hb4⟩
  have HB4 := HB3.alloc HB3.size (.cells #[.int .i64 0, .int .i64 3] 3)
  go_wp2
  go_ret
  exact ⟨rfl, HB4.trans (hb4.mono HB4.size)⟩

end Go.Proofs.Ytbhknchpiagciaa
