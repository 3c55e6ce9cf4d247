/- The law ClintKnown, walked call by call. -/
import Derived.Test.YtpmlcnhkfnmheaaClLaw
namespace Go.Proofs.Ytpmlcnhkfnmheaa
open Go.RowKit
set_option linter.unusedVariables false

set_option maxRecDepth 100000 in
set_option maxHeartbeats 4000000 in
theorem clintKnown_walk (w : World) : Calls Try.prog 3 #[] w fun e w' => e = .returned (.bool true) ∧ Below w.heap.size w w' := by
  go_enter Try.func3, Try.ntmps3
  go_wp2_with fail
  refine (new_is _).mono ?_
  rintro e w1 ⟨rfl, hb⟩
  have HO := Lib.hid (OwnP.made (t := ⟨false, 18446744073709551615, 0⟩) hb (by unfold Cl.ok In64; decide))
  clear hb
  go_wp2_with fail
  try simp only at HO
  generalize hbb : w1.heap.size = b at *
  clear hbb
  generalize w1.alloc (.cells #[.bool false, .int .u64 18446744073709551615, .int .u64 0] 26) = w2 at *
  obtain ⟨c0, c1, c2⟩ := HO.out.cells
  go_wp2_with fail
  refine (read_is _ _ _ _ _ _ 18446744073709551615 true (by unfold Cl.ok In64; decide) (by unfold In64; decide) (by decide) (by decide)).mono ?_
  rintro e w3 ⟨rfl, hb⟩
  replace HO := Lib.hid (HO.out.below hb)
  clear c0 c1 c2 hb
  obtain ⟨c0, c1, c2⟩ := HO.out.cells
  go_wp2_with fail
  refine (read_is _ _ _ _ _ _ 0 true (by unfold Cl.ok In64; decide) (by unfold In64; decide) (by decide) (by decide)).mono ?_
  rintro e w4 ⟨rfl, hb⟩
  replace HO := Lib.hid (HO.out.below hb)
  clear c0 c1 c2 hb
  obtain ⟨c0, c1, c2⟩ := HO.out.cells
  go_wp2_with fail
  refine (mtip_is _ false _ _ false (by decide)).mono ?_
  rintro e w5 ⟨rfl, hb⟩
  replace HO := Lib.hid (HO.out.below hb)
  clear c0 c1 c2 hb
  obtain ⟨c0, c1, c2⟩ := HO.out.cells
  go_wp2_with fail
  refine (msip_is _ _ _ _).mono ?_
  rintro e w6 ⟨rfl, hb⟩
  replace HO := Lib.hid (HO.out.below hb)
  clear c0 c1 c2 hb
  obtain ⟨c0, c1, c2⟩ := HO.out.cells
  go_wp2_with fail
  refine (write_is _ b _ ⟨false, 18446744069414584325, 0⟩ _ _ _ true HO.out.2.2 (by unfold In64; decide) (by unfold In64; decide) (by rfl) (by decide)).mono ?_
  rintro e w7 ⟨rfl, ho, hp⟩
  replace HO := Lib.hid (HO.out.turn ho hp)
  clear c0 c1 c2 ho hp
  obtain ⟨c0, c1, c2⟩ := HO.out.cells
  go_wp2_with fail
  refine (read_is _ _ _ _ _ _ 18446744069414584325 true (by unfold Cl.ok In64; decide) (by unfold In64; decide) (by decide) (by decide)).mono ?_
  rintro e w8 ⟨rfl, hb⟩
  replace HO := Lib.hid (HO.out.below hb)
  clear c0 c1 c2 hb
  obtain ⟨c0, c1, c2⟩ := HO.out.cells
  go_wp2_with fail
  refine (write_is _ b _ ⟨false, 5, 0⟩ _ _ _ true HO.out.2.2 (by unfold In64; decide) (by unfold In64; decide) (by rfl) (by decide)).mono ?_
  rintro e w9 ⟨rfl, ho, hp⟩
  replace HO := Lib.hid (HO.out.turn ho hp)
  clear c0 c1 c2 ho hp
  obtain ⟨c0, c1, c2⟩ := HO.out.cells
  go_wp2_with fail
  refine (tick_is _ b _ ⟨false, 5, 4⟩ _ HO.out.2.2 (by unfold In64; decide) (by rfl)).mono ?_
  rintro e w10 ⟨hu, ho, hp⟩
  obtain ⟨u, rfl⟩ := hu
  replace HO := Lib.hid (HO.out.turn ho hp)
  clear c0 c1 c2 ho hp
  obtain ⟨c0, c1, c2⟩ := HO.out.cells
  go_wp2_with fail
  refine (mtip_is _ false _ _ false (by decide)).mono ?_
  rintro e w11 ⟨rfl, hb⟩
  replace HO := Lib.hid (HO.out.below hb)
  clear c0 c1 c2 hb
  obtain ⟨c0, c1, c2⟩ := HO.out.cells
  go_wp2_with fail
  refine (tick_is _ b _ ⟨false, 5, 5⟩ _ HO.out.2.2 (by unfold In64; decide) (by rfl)).mono ?_
  rintro e w12 ⟨hu, ho, hp⟩
  obtain ⟨u, rfl⟩ := hu
  replace HO := Lib.hid (HO.out.turn ho hp)
  clear c0 c1 c2 ho hp
  obtain ⟨c0, c1, c2⟩ := HO.out.cells
  go_wp2_with fail
  refine (mtip_is _ false _ _ true (by decide)).mono ?_
  rintro e w13 ⟨rfl, hb⟩
  replace HO := Lib.hid (HO.out.below hb)
  clear c0 c1 c2 hb
  obtain ⟨c0, c1, c2⟩ := HO.out.cells
  go_wp2_with fail
  refine (write_is _ b _ ⟨true, 5, 5⟩ _ _ _ true HO.out.2.2 (by unfold In64; decide) (by unfold In64; decide) (by rfl) (by decide)).mono ?_
  rintro e w14 ⟨rfl, ho, hp⟩
  replace HO := Lib.hid (HO.out.turn ho hp)
  clear c0 c1 c2 ho hp
  obtain ⟨c0, c1, c2⟩ := HO.out.cells
  go_wp2_with fail
  refine (msip_is _ _ _ _).mono ?_
  rintro e w15 ⟨rfl, hb⟩
  replace HO := Lib.hid (HO.out.below hb)
  clear c0 c1 c2 hb
  obtain ⟨c0, c1, c2⟩ := HO.out.cells
  go_wp2_with fail
  refine (read_is _ _ _ _ _ _ 1 true (by unfold Cl.ok In64; decide) (by unfold In64; decide) (by decide) (by decide)).mono ?_
  rintro e w16 ⟨rfl, hb⟩
  replace HO := Lib.hid (HO.out.below hb)
  clear c0 c1 c2 hb
  obtain ⟨c0, c1, c2⟩ := HO.out.cells
  go_wp2_with fail
  refine (read_is _ _ _ _ _ _ 0 false (by unfold Cl.ok In64; decide) (by unfold In64; decide) (by decide) (by decide)).mono ?_
  rintro e w17 ⟨rfl, hb⟩
  replace HO := Lib.hid (HO.out.below hb)
  clear c0 c1 c2 hb
  obtain ⟨c0, c1, c2⟩ := HO.out.cells
  go_wp2_with fail
  refine (read_is _ _ _ _ _ _ 0 false (by unfold Cl.ok In64; decide) (by unfold In64; decide) (by decide) (by decide)).mono ?_
  rintro e w18 ⟨rfl, hb⟩
  replace HO := Lib.hid (HO.out.below hb)
  clear c0 c1 c2 hb
  obtain ⟨c0, c1, c2⟩ := HO.out.cells
  go_wp2_with fail
  refine (read_is _ _ _ _ _ _ 0 false (by unfold Cl.ok In64; decide) (by unfold In64; decide) (by decide) (by decide)).mono ?_
  rintro e w19 ⟨rfl, hb⟩
  replace HO := Lib.hid (HO.out.below hb)
  clear c0 c1 c2 hb
  obtain ⟨c0, c1, c2⟩ := HO.out.cells
  go_wp2_with fail
  refine (write_is _ b _ ⟨true, 5, 5⟩ _ _ _ false HO.out.2.2 (by unfold In64; decide) (by unfold In64; decide) (by rfl) (by decide)).mono ?_
  rintro e w20 ⟨rfl, ho, hp⟩
  replace HO := Lib.hid (HO.out.turn ho hp)
  clear c0 c1 c2 ho hp
  obtain ⟨c0, c1, c2⟩ := HO.out.cells
  go_wp2_with fail
  refine (write_is _ b _ ⟨true, 5, 4294967301⟩ _ _ _ true HO.out.2.2 (by unfold In64; decide) (by unfold In64; decide) (by rfl) (by decide)).mono ?_
  rintro e w21 ⟨rfl, ho, hp⟩
  replace HO := Lib.hid (HO.out.turn ho hp)
  clear c0 c1 c2 ho hp
  obtain ⟨c0, c1, c2⟩ := HO.out.cells
  go_wp2_with fail
  refine (tick_nil _ _).mono ?_
  rintro e w90 ⟨hu, rfl⟩
  obtain ⟨u, rfl⟩ := hu
  go_wp2_with fail
  refine (awake_any _).mono ?_
  rintro e w22 ⟨rfl, hb⟩
  replace HO := Lib.hid (HO.out.below hb)
  clear c0 c1 c2 hb
  obtain ⟨c0, c1, c2⟩ := HO.out.cells
  go_wp2_with fail
  refine (time_is _ _ _).mono ?_
  rintro e w23 ⟨rfl, hb⟩
  replace HO := Lib.hid (HO.out.below hb)
  clear c0 c1 c2 hb
  obtain ⟨c0, c1, c2⟩ := HO.out.cells
  go_wp2_with fail
  refine (write_nil _ _ _ _).mono ?_
  rintro e w91 ⟨rfl, rfl⟩
  go_wp2
  go_ret
  exact ⟨rfl, HO.out.1⟩

end Go.Proofs.Ytpmlcnhkfnmheaa
