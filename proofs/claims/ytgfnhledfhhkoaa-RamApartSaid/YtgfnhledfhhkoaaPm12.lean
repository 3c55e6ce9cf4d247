/- The program's memory of layer 3: New. -/
import Derived.Test.YtgfnhledfhhkoaaPm11
namespace Go.Proofs.Ytgfnhledfhhkoaa
open Go.RowKit Go.Maps
set_option linter.unusedVariables false

theorem newProg_mem {w : World} {base size : Int} (h1 : base % 4096 = 0) (h2 : size % 4096 = 0) :
    ProgMem ((w.alloc (.map #[] 0)).alloc (.cells #[.int .u64 base, .int .u64 size, .map (some w.heap.size)] 64)) (w.heap.size + 1) (fun i => i = w.heap.size ∨ i = w.heap.size + 1) base size fun _ => 0 := by
  have hb : Below (w.alloc (.map #[] 0)).heap.size (w.alloc (.map #[] 0)) ((w.alloc (.map #[] 0)).alloc (.cells #[.int .u64 base, .int .u64 size, .map (some w.heap.size)] 64)) := (Below.refl _ _).alloc (Nat.le_refl _) _
  have hs : (w.alloc (.map #[] 0)).heap.size = w.heap.size + 1 := World.size_alloc _ _
  refine ⟨w.heap.size, fun _ => none, ?_, ⟨(PgMap.made Try.prog 26 w).keeps (Only.of_below (fun _ => False) hb) id, (by simp), (by simp), (by simp), .inr rfl, .inl rfl, (by omega), fun i hi => ?_⟩, fun y => ⟨Int.le_refl _, by show (0 : Int) ≤ 255; omega⟩, fun y hy => absurd rfl hy, h1, h2⟩
  · have := heap_alloc_new (w.alloc (.map #[] 0)) (.cells #[.int .u64 base, .int .u64 size, .map (some w.heap.size)] 64)
    rwa [hs] at this
  · rw [World.size_alloc, hs]; rcases hi with rfl | rfl <;> omega

set_option maxHeartbeats 1000000 in
theorem progNew_any (base size : Int) (w : World) (hb : In64 base) (hs : In64 size) :
    Calls Try.prog 8 #[.int .u64 base, .int .u64 size] w (ProgNew ProgMem w base size (newOk base size)) := by
  have hmm := @run_makeMap Try.prog
  have HB := Lib.hid hb
  have HS := Lib.hid hs
  have s0 := hs.1
  have b0 := hb.1
  have s1 := hs.2
  have b1 := hb.2
  clear hb hs
  have NO : ∀ (ww : World), newOk base size = false → Below w.heap.size w ww → ProgNew ProgMem w base size (newOk base size) (.returned (.tuple #[.pointer none, .int .i64 1])) ww := fun ww h hb => ⟨hb, .inl ⟨h, rfl⟩⟩
  have HNO := Lib.hid NO
  clear NO
  cases e1 : (base % 4096 == 0)
  · have HK : Hid (newOk base size = false) := Lib.hid (by unfold newOk; rw [decide_eq_false]; simp at e1; omega)
    have E1 := Lib.hid e1
    clear e1
    go_enter Try.func8, Try.ntmps8
    go_wp2_with (go_at_call 28; refine (isWhole_any base HB.out _).mono ?_; rintro e w' ⟨rfl, rfl⟩; rw [E1.out])
    go_ret2
    exact HNO.out _ HK.out (Below.refl _ _)
  cases e2 : (size % 4096 == 0)
  · have HK : Hid (newOk base size = false) := Lib.hid (by unfold newOk; rw [decide_eq_false]; simp at e2; omega)
    have E1 := Lib.hid e1
    have E2 := Lib.hid e2
    clear e1 e2
    go_enter Try.func8, Try.ntmps8
    go_wp2_with fail
    refine (isWhole_any base HB.out _).mono ?_
    rintro e w' ⟨rfl, rfl⟩
    rw [E1.out]
    go_wp2_with fail
    refine (isWhole_any size HS.out _).mono ?_
    rintro e w' ⟨rfl, rfl⟩
    rw [E2.out]
    go_wp2
    go_ret2
    exact HNO.out _ HK.out (Below.refl _ _)
  have E1 := Lib.hid e1
  have E2 := Lib.hid e2
  have F1 : base % 4096 = 0 := by simpa using e1
  have F2 : size % 4096 = 0 := by simpa using e2
  clear e1 e2
  by_cases c3 : size = 0
  · have HK : Hid (newOk base size = false) := Lib.hid (by unfold newOk; rw [decide_eq_false]; omega)
    subst c3
    clear F1 F2
    go_enter Try.func8, Try.ntmps8
    go_wp2_with fail
    refine (isWhole_any base HB.out _).mono ?_
    rintro e w' ⟨rfl, rfl⟩
    rw [E1.out]
    go_wp2_with fail
    refine (isWhole_any 0 HS.out _).mono ?_
    rintro e w' ⟨rfl, rfl⟩
    rw [E2.out]
    go_wp2
    go_ret2
    exact HNO.out _ HK.out (Below.refl _ _)
  have c3b : (size == 0) = false := by simpa using c3
  have F1 := Lib.hid F1
  have F2 := Lib.hid F2
  have F3 := Lib.hid c3
  clear c3
  by_cases c4 : size ≤ 67108864
  · have d1 : 0 ≤ 9223372036854775808 - size := by omega
    have d2 : 9223372036854775808 - size ≤ 18446744073709551615 := by omega
    by_cases c5 : base ≤ 9223372036854775808 - size
    · have HK : Hid (newOk base size = true) := Lib.hid (by unfold newOk; rw [decide_eq_true_eq]; have := F1.out; have := F2.out; have := F3.out; omega)
      have HEND := Lib.hid (newProg_mem (w := w) F1.out F2.out)
      clear F1 F2 F3
      go_enter Try.func8, Try.ntmps8
      go_wp2_with fail
      refine (isWhole_any base HB.out _).mono ?_
      rintro e w' ⟨rfl, rfl⟩
      rw [E1.out]
      go_wp2_with fail
      refine (isWhole_any size HS.out _).mono ?_
      rintro e w' ⟨rfl, rfl⟩
      rw [E2.out]
      go_wp2
      go_ret2
      exact ⟨((Below.refl _ _).alloc (Nat.le_refl _) _).alloc (by simp) _, .inr ⟨HK.out, w.heap.size + 1, _, rfl, by rintro i (rfl | rfl) <;> omega, HEND.out⟩⟩
    · have HK : Hid (newOk base size = false) := Lib.hid (by unfold newOk; rw [decide_eq_false]; omega)
      clear F1 F2 F3
      go_enter Try.func8, Try.ntmps8
      go_wp2_with fail
      refine (isWhole_any base HB.out _).mono ?_
      rintro e w' ⟨rfl, rfl⟩
      rw [E1.out]
      go_wp2_with fail
      refine (isWhole_any size HS.out _).mono ?_
      rintro e w' ⟨rfl, rfl⟩
      rw [E2.out]
      go_wp2
      go_ret2
      exact HNO.out _ HK.out (Below.refl _ _)
  · have HK : Hid (newOk base size = false) := Lib.hid (by unfold newOk; rw [decide_eq_false]; omega)
    clear F1 F2 F3
    go_enter Try.func8, Try.ntmps8
    go_wp2_with fail
    refine (isWhole_any base HB.out _).mono ?_
    rintro e w' ⟨rfl, rfl⟩
    rw [E1.out]
    go_wp2_with fail
    refine (isWhole_any size HS.out _).mono ?_
    rintro e w' ⟨rfl, rfl⟩
    rw [E2.out]
    go_wp2
    go_ret2
    exact HNO.out _ HK.out (Below.refl _ _)

end Go.Proofs.Ytgfnhledfhhkoaa
