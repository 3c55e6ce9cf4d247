/- The law ClintTicks, walked call by call. -/
import Derived.Test.YtpmlcnhkfnmheaaClLaw
namespace Go.Proofs.Ytpmlcnhkfnmheaa
open Go.RowKit
set_option linter.unusedVariables false

theorem OwnP.ne {w0 w : World} {b : Nat} {t : Cl} (h : OwnP w0 w b t) : b < w.heap.size := h.2.2.lt

set_option maxRecDepth 100000 in
set_option maxHeartbeats 4000000 in
theorem clintTicks_walk (start cmp n m : Int) (w : World) (i0 : In64 start) (i1 : In64 cmp) (i2 : In64 n) (i3 : In64 m) :
    Calls Try.prog 7 #[.int .u64 start, .int .u64 cmp, .int .u64 n, .int .u64 m] w fun e w' => e = .returned (.bool true) ∧ Below w.heap.size w w' := by
  obtain ⟨p, hp⟩ : ∃ p, (start + n) % 18446744073709551616 = p := ⟨_, rfl⟩
  obtain ⟨q, hq⟩ : ∃ q, (p + m) % 18446744073709551616 = q := ⟨_, rfl⟩
  obtain ⟨s, hs⟩ : ∃ s, IntKind.u64.wrap (n + m) = s := ⟨_, rfl⟩
  have hs2 : (start + s) % 18446744073709551616 = q := by rw [← hs, IntKind.wrap_u64]; omega
  have hs3 : In64 s := by rw [← hs, wrap_eq]; exact U_in _
  have hq2 : IntKind.u64.wrap (IntKind.u64.wrap (start + n) + m) = q := by rw [IntKind.wrap_u64, IntKind.wrap_u64]; omega
  have hm2 : IntKind.u64.wrap (18446744073709551615 - m) = 18446744073709551615 - m := by rw [IntKind.wrap_u64]; unfold In64 at i3; omega
  have hmt : p ≤ 18446744073709551615 - m → cmp ≤ p → cmp ≤ q := by intro h1 h2; unfold In64 at *; omega
  have I0 := Lib.hid i0
  have I1 := Lib.hid i1
  have I2 := Lib.hid i2
  have I3 := Lib.hid i3
  have HP := Lib.hid hp
  have HQ := Lib.hid hq
  have HS2 := Lib.hid hs2
  have HS3 := Lib.hid hs3
  have HMT := Lib.hid hmt
  clear i0 i1 i2 i3 hp hq hs2 hs3 hmt
  go_enter Try.func7, Try.ntmps7
  go_wp2_with fail
  refine (awake_any _).mono ?_
  rintro e w1 ⟨rfl, hb⟩
  have HB := Lib.hid hb
  clear hb
  go_wp2_with fail
  refine (new_is _).mono ?_
  rintro e w2 ⟨rfl, hb⟩
  have HO := Lib.hid (OwnP.made (t := ⟨false, 18446744073709551615, 0⟩) (HB.out.trans (hb.mono HB.out.size)) (by unfold Cl.ok In64; decide))
  clear hb HB
  go_wp2_with fail
  try simp only at HO
  generalize hbb : w2.heap.size = b at *
  clear hbb
  generalize w2.alloc (.cells #[.bool false, .int .u64 18446744073709551615, .int .u64 0] 26) = w3 at *
  refine (write_is _ b _ ⟨false, 18446744073709551615, start⟩ _ _ _ true HO.out.2.2 (by unfold In64; decide) I0.out (by rfl) (by decide)).mono ?_
  rintro e w4 ⟨rfl, ho, hp⟩
  replace HO := Lib.hid (HO.out.turn ho hp)
  clear ho hp
  go_wp2_with fail
  refine (write_is _ b _ ⟨false, cmp, start⟩ _ _ _ true HO.out.2.2 (by unfold In64; decide) I1.out (by rfl) (by decide)).mono ?_
  rintro e w5 ⟨rfl, ho, hp⟩
  replace HO := Lib.hid (HO.out.turn ho hp)
  clear ho hp
  obtain ⟨c0, c1, c2⟩ := HO.out.cells
  go_wp2_with fail
  have HOb := Lib.hid (OwnP.made (w0 := w) (t := ⟨false, cmp, start⟩) HO.out.1 HO.out.2.2.2)
  have hne : ¬ w5.heap.size = b := by have := HO.out.ne; omega
  replace HO := Lib.hid (HO.out.below ((Below.refl _ _).alloc (Nat.le_refl _) (.cells #[.bool false, .int .u64 cmp, .int .u64 start] 26)))
  clear c0 c1 c2
  try simp only at HOb
  generalize w5.alloc (.cells #[.bool false, .int .u64 cmp, .int .u64 start] 26) = w6 at *
  generalize w5.heap.size = b2 at *
  refine (tick_is _ b _ ⟨false, cmp, p⟩ _ HO.out.2.2 I2.out (by unfold tickC; rw [HP.out])).mono ?_
  rintro e w7 ⟨hu, ho, hp⟩
  obtain ⟨u, rfl⟩ := hu
  replace HOb := Lib.hid (HOb.out.aside ho (by rintro i rfl; exact HO.out.2.1) hne)
  replace HO := Lib.hid (HO.out.turn ho hp)
  clear ho hp
  obtain ⟨c0, c1, c2⟩ := HO.out.cells
  obtain ⟨r, hr⟩ : ∃ r, mtC ⟨false, cmp, p⟩ = r := ⟨_, rfl⟩
  have HR := Lib.hid hr
  clear hr
  go_wp2_with fail
  refine (mtip_is _ false _ _ r HR.out).mono ?_
  rintro e w8 ⟨rfl, hb⟩
  replace HO := Lib.hid (HO.out.below hb)
  replace HOb := Lib.hid (HOb.out.below hb)
  clear c0 c1 c2 hb
  obtain ⟨c0, c1, c2⟩ := HO.out.cells
  go_wp2_with fail
  refine (time_is _ _ _).mono ?_
  rintro e w9 ⟨rfl, hb⟩
  replace HO := Lib.hid (HO.out.below hb)
  replace HOb := Lib.hid (HOb.out.below hb)
  clear c0 c1 c2 hb
  go_wp2_with fail
  refine (tick_is _ b _ ⟨false, cmp, q⟩ _ HO.out.2.2 I3.out (by unfold tickC; rw [HQ.out])).mono ?_
  rintro e w10 ⟨hu, ho, hp⟩
  obtain ⟨u2, rfl⟩ := hu
  replace HOb := Lib.hid (HOb.out.aside ho (by rintro i rfl; exact HO.out.2.1) hne)
  replace HO := Lib.hid (HO.out.turn ho hp)
  clear ho hp
  go_wp2_with fail
  refine (tick_is _ b2 _ ⟨false, cmp, q⟩ _ HOb.out.2.2 HS3.out (by unfold tickC; rw [HS2.out])).mono ?_
  rintro e w11 ⟨hu, ho, hp⟩
  obtain ⟨u3, rfl⟩ := hu
  replace HO := Lib.hid (HO.out.aside ho (by rintro i rfl; exact HOb.out.2.1) (fun h => hne h.symm))
  replace HOb := Lib.hid (HOb.out.turn ho hp)
  clear ho hp
  obtain ⟨c0, c1, c2⟩ := HO.out.cells
  obtain ⟨d0, d1, d2⟩ := HOb.out.cells
  go_wp2_with fail
  refine (time_is _ _ _).mono ?_
  rintro e w12 ⟨rfl, hb⟩
  replace HO := Lib.hid (HO.out.below hb)
  clear c0 c1 c2 d0 d1 d2 hb HOb
  obtain ⟨c0, c1, c2⟩ := HO.out.cells
  cases r with
  | false =>
    go_wp2_with fail
    go_ret
    exact ⟨rfl, HO.out.1⟩
  | true =>
    by_cases hlt : 18446744073709551615 - m < p
    · go_wp2_with fail
      go_ret
      exact ⟨rfl, HO.out.1⟩
    · have HC : Hid (mtC ⟨false, cmp, q⟩ = true) := by
        refine Lib.hid ?_
        have h1 := HR.out
        unfold mtC at *
        rw [decide_eq_true_eq] at *
        exact HMT.out (by omega) h1
      go_wp2_with fail
      refine (mtip_is _ false _ _ true HC.out).mono ?_
      rintro e w13 ⟨rfl, hb⟩
      replace HO := Lib.hid (HO.out.below hb)
      clear c0 c1 c2 hb
      go_wp2
      go_ret
      exact ⟨rfl, HO.out.1⟩

end Go.Proofs.Ytpmlcnhkfnmheaa
