/- Layer 5: the program's Write. -/
import Derived.Test.YtgimnkablodheaaDoorPlV
namespace Go.Proofs.YtgimnkablodheaaDoor
open Go.RowKit
set_option linter.unusedVariables false

theorem write_none (w : World) (off n v : Int) : Calls Tryd.prog 9 #[.pointer none, .int .u64 off, .int .i64 n, .int .u64 v] w fun e w' => e = .returned (.bool false) ∧ w = w' := by
  go_enter Tryd.func9, Tryd.ntmps9
  go_wp2
  go_ret
  exact ⟨rfl, rfl⟩
theorem write_len (w : World) (b : Nat) (t : PS) (h : ProgP w b t) (off n v : Int) (hn : ¬ n = 4) : Calls Tryd.prog 9 #[.pointer (some ⟨b, 0, none⟩), .int .u64 off, .int .i64 n, .int .u64 v] w (ProgEnd w b (.bool false) t) := by
  have HN := Lib.hid hn
  have H := Lib.hid h
  clear hn h
  go_enter Tryd.func9, Tryd.ntmps9
  go_wp2_with fail
  refine (find_len _ off n HN.out).mono ?_
  rintro e w2 ⟨rfl, hb⟩
  have HB := Lib.hid hb
  clear hb
  go_wp2
  go_ret
  exact ⟨rfl, Only.of_below _ HB.out, H.out.below HB.out⟩
theorem write_no (w : World) (b : Nat) (t : PS) (h : ProgP w b t) (ht : Tab w) (off v : Int) (hn : NoPlic off) (ho : In64 off) : Calls Tryd.prog 9 #[.pointer (some ⟨b, 0, none⟩), .int .u64 off, .int .i64 4, .int .u64 v] w (ProgEnd w b (.bool false) t) := by
  have HF := Lib.hid (find_is w off ht _ _ _ (findQ_no hn ho))
  have H := Lib.hid h
  clear hn h ho ht
  go_enter Tryd.func9, Tryd.ntmps9
  go_wp2_with fail
  (with_reducible refine (HF.out).mono ?_)
  rintro e w2 ⟨rfl, hb⟩
  have HB := Lib.hid hb
  clear hb
  go_wp2
  go_ret
  exact ⟨rfl, Only.of_below _ HB.out, H.out.below HB.out⟩
theorem write_pend (w : World) (b : Nat) (t : PS) (h : ProgP w b t) (ht : Tab w) (v : Int) : Calls Tryd.prog 9 #[.pointer (some ⟨b, 0, none⟩), .int .u64 4096, .int .i64 4, .int .u64 v] w (ProgEnd w b (.bool true) t) := by
  have HF := Lib.hid (find_is w 4096 ht 1 0 true (by decide))
  have H := Lib.hid h
  clear h ht
  go_enter Tryd.func9, Tryd.ntmps9
  go_wp2_with fail
  (with_reducible refine (HF.out).mono ?_)
  rintro e w2 ⟨rfl, hb⟩
  have HB := Lib.hid hb
  clear hb
  go_wp2
  go_ret
  exact ⟨rfl, Only.of_below _ HB.out, H.out.below HB.out⟩
theorem write_prio0 (w : World) (b : Nat) (t : PS) (h : ProgP w b t) (ht : Tab w) (v : Int) : Calls Tryd.prog 9 #[.pointer (some ⟨b, 0, none⟩), .int .u64 0, .int .i64 4, .int .u64 v] w (ProgEnd w b (.bool true) t) := by
  have HF := Lib.hid (find_is w 0 ht 0 0 true (by decide))
  have H := Lib.hid h
  clear h ht
  go_enter Tryd.func9, Tryd.ntmps9
  go_wp2_with fail
  (with_reducible refine (HF.out).mono ?_)
  rintro e w2 ⟨rfl, hb⟩
  have HB := Lib.hid hb
  clear hb
  go_wp2_with fail
  (with_reducible refine (setPriority_no _ _ _ _ (by decide)).mono ?_)
  rintro e w3 ⟨hu, rfl⟩
  obtain ⟨u, rfl⟩ := hu
  go_wp2
  go_ret
  exact ⟨rfl, Only.of_below _ HB.out, H.out.below HB.out⟩
theorem write_prio (w : World) (b : Nat) (t : PS) (h : ProgP w b t) (ht : Tab w) (k : Nat) (hk1 : 1 ≤ k) (hk : k < 32) (off v : Int) (ho : off = 4 * (k : Int)) (hv : In64 v) : Calls Tryd.prog 9 #[.pointer (some ⟨b, 0, none⟩), .int .u64 off, .int .i64 4, .int .u64 v] w (ProgEnd w b (.bool true) (prioT t k (v % 8))) := by
  have HF := Lib.hid (find_is w off ht 0 (k : Int) true (by rw [ho]; exact findQ_prio hk))
  have H := Lib.hid h
  have HV := Lib.hid hv
  clear h ht ho hv
  go_enter Tryd.func9, Tryd.ntmps9
  go_wp2_with fail
  (with_reducible refine (HF.out).mono ?_)
  rintro e w2 ⟨rfl, hb⟩
  have HB := Lib.hid hb
  have HP := Lib.hid (H.out.below hb)
  clear hb
  go_wp2_with fail
  (with_reducible refine (setPriority_yes _ b t HP.out k hk1 hk v HV.out).mono ?_)
  rintro e w3 ⟨hu, ho, hp⟩
  obtain ⟨u, rfl⟩ := hu
  have HO := Lib.hid ((Only.of_below _ HB.out).trans ho)
  have HP3 := Lib.hid hp
  clear ho hp
  go_wp2
  go_ret
  exact ⟨rfl, HO.out, HP3.out⟩
theorem write_on (w : World) (b : Nat) (t : PS) (h : ProgP w b t) (ht : Tab w) (c : Nat) (hc : c < 2) (off v : Int) (hf : findQ off = (2, (c : Int), true)) (hv : In64 v) : Calls Tryd.prog 9 #[.pointer (some ⟨b, 0, none⟩), .int .u64 off, .int .i64 4, .int .u64 v] w (ProgEnd w b (.bool true) (onT t c (onBits v))) := by
  have HF := Lib.hid (find_is w off ht _ _ _ hf)
  have H := Lib.hid h
  have hw : IntKind.u32.wrap v = v % 4294967296 := by rw [IntKind.wrap_u32]
  have hn1 := not1_32 hv.1
  have H1 := Lib.hid hw
  have H2 := Lib.hid hn1
  have i1 : (c : Int) < 2 := by omega
  clear h ht hf hv hw hn1
  go_enter Tryd.func9, Tryd.ntmps9
  go_wp2_with fail
  (with_reducible refine (HF.out).mono ?_)
  rintro e w2 ⟨rfl, hb⟩
  have HB := Lib.hid hb
  have HP := H.out.below hb
  have c0 := HP.on_ hc
  have f0 := HP.free (35 + c)
  have HP2 := Lib.hid (HP.setOn hc (onBits v) (by unfold onBits; rfl))
  have HO : Hid (Only (fun i => i = b) w (w2.setCell ⟨b, 35 + c, none⟩ (.int .u32 (bits32 (onBits v))))) := Lib.hid ((Only.of_below (fun i => i = b) HB.out).setCell (p := ⟨b, 35 + c, none⟩) (.inl rfl) _)
  have e1 := H1.out
  have e2 := H2.out
  clear hb HP
  go_wp2
  go_ret
  exact ⟨rfl, HO.out, HP2.out⟩
set_option maxHeartbeats 1000000 in
theorem write_floor (w : World) (b : Nat) (t : PS) (h : ProgP w b t) (ht : Tab w) (c : Nat) (hc : c < 2) (off v : Int) (hf : findQ off = (3, (c : Int), true)) (hv : In64 v) : Calls Tryd.prog 9 #[.pointer (some ⟨b, 0, none⟩), .int .u64 off, .int .i64 4, .int .u64 v] w (ProgEnd w b (.bool true) (floorT t c (v % 8))) := by
  have HF := Lib.hid (find_is w off ht _ _ _ hf)
  have H := Lib.hid h
  have HV := Lib.hid hv
  have HL := Lib.hid (low3 hv)
  have hr1 := Int.emod_nonneg v (show (8 : Int) ≠ 0 by decide)
  have hr2 := Int.emod_lt_of_pos v (show (0 : Int) < 8 by decide)
  have H8 := Lib.hid (wrap_u8 hr1 hr2)
  have HR : Hid (0 ≤ v % 8 ∧ v % 8 < 8) := Lib.hid ⟨hr1, hr2⟩
  have i1 : (c : Int) < 2 := by omega
  clear h ht hf hv hr1 hr2
  go_enter Tryd.func9, Tryd.ntmps9
  go_wp2_with fail
  (with_reducible refine (HF.out).mono ?_)
  rintro e w2 ⟨rfl, hb⟩
  have HB := Lib.hid hb
  have HP := H.out.below hb
  have cc := HP.floor_ hc
  have ff := HP.free (37 + c)
  have HN : Hid (∀ n, ProgP ((w2.drewN n).setCell ⟨b, 37 + c, none⟩ (.int .u8 (v % 8))) b (floorT t c (v % 8))) := Lib.hid fun n => ProgP.setFloor (w := w2.drewN n) ⟨HP.1, HP.2⟩ hc HR.out.1 HR.out.2
  have HO : Hid (∀ n, Only (fun i => i = b) w ((w2.drewN n).setCell ⟨b, 37 + c, none⟩ (.int .u8 (v % 8)))) := Lib.hid fun n => Only.setCell ((Only.of_below (fun i => i = b) HB.out).drewN n) (p := ⟨b, 37 + c, none⟩) (.inl rfl) _
  clear hb HP
  go_wp2_with fail
  go_region_with (go_at_call 24; refine (field_any _ _ _ HV.out _).mono ?_; rintro e w' ⟨rfl, q, rfl⟩; rw [HL.out]; have e8 := H8.out; have f8 : (w2.drew.drewN q).frozen? ⟨b, 37 + c, none⟩ = false := ff; have g8 : (w2.drew.drewN q).cell? ⟨b, 37 + c, none⟩ = some (.int .u8 (t.floor c)) := cc)
  go_wp2
  go_ret
  exact ⟨rfl, HO.out _, HN.out _⟩
theorem write_done (w : World) (b : Nat) (t : PS) (h : ProgP w b t) (ht : Tab w) (c : Nat) (hc : c < 2) (off v : Int) (hf : findQ off = (4, (c : Int), true)) (hv : In64 v) : Calls Tryd.prog 9 #[.pointer (some ⟨b, 0, none⟩), .int .u64 off, .int .i64 4, .int .u64 v] w (ProgEnd w b (.bool true) (doneT t c (v % 4294967296).toNat)) := by
  have HF := Lib.hid (find_is w off ht _ _ _ hf)
  have H := Lib.hid h
  have hx1 := Int.emod_nonneg v (show (4294967296 : Int) ≠ 0 by decide)
  have hx2 := Int.emod_lt_of_pos v (show (0 : Int) < 4294967296 by decide)
  obtain ⟨x, hx⟩ : ∃ x : Nat, (v % 4294967296).toNat = x := ⟨_, rfl⟩
  have hvx : IntKind.u32.wrap v = (x : Int) := by rw [IntKind.wrap_u32]; omega
  have hwx : IntKind.i64.wrap (x : Int) = x := IntWalk.i64_in _ (by omega)
  rw [hx]
  clear h ht hf hv hx hx1 hx2
  go_enter Tryd.func9, Tryd.ntmps9
  go_wp2_with fail
  (with_reducible refine (HF.out).mono ?_)
  rintro e w2 ⟨rfl, hb⟩
  have HB := Lib.hid hb
  have HP := Lib.hid (H.out.below hb)
  clear hb
  go_wp2_with fail
  (with_reducible refine (complete_any _ b t HP.out c hc x).mono ?_)
  rintro e w3 ⟨hu, ho, hp⟩
  obtain ⟨u, rfl⟩ := hu
  have HO := Lib.hid ((Only.of_below _ HB.out).trans ho)
  have HP3 := Lib.hid hp
  clear ho hp
  go_wp2
  go_ret
  exact ⟨rfl, HO.out, HP3.out⟩
theorem write_any (w : World) (b : Nat) (t : PS) (h : ProgP w b t) (ht : Tab w) (off n v : Int) (ho : In64 off) (hv : In64 v) :
    Calls Tryd.prog 9 #[.pointer (some ⟨b, 0, none⟩), .int .u64 off, .int .i64 n, .int .u64 v] w (ProgEnd w b (.bool (okP (plcK off n))) (wrT t (plcK off n) v)) := by
  rcases plc_cases off n ho.1 with ⟨rfl, k, hk, hk4, hp⟩ | ⟨rfl, rfl, hp⟩ | ⟨rfl, rfl, hp⟩ | ⟨rfl, rfl, hp⟩ | ⟨rfl, rfl, hp⟩ | ⟨rfl, rfl, hp⟩ | ⟨rfl, rfl, hp⟩ | ⟨rfl, rfl, hp⟩ | ⟨rfl, hn, hp⟩ | ⟨hn, hp⟩
  all_goals rw [hp]
  · by_cases k0 : k = 0
    · subst k0
      obtain rfl : off = 0 := by omega
      exact write_prio0 w b t h ht v
    · rw [show wrT t (0, k) v = prioT t k (v % 8) from if_neg k0]
      exact write_prio w b t h ht k (by omega) hk off v hk4 hv
  · exact write_pend w b t h ht v
  · exact write_on w b t h ht 0 (by omega) _ v (by decide) hv
  · exact write_on w b t h ht 1 (by omega) _ v (by decide) hv
  · exact write_floor w b t h ht 0 (by omega) _ v (by decide) hv
  · exact write_floor w b t h ht 1 (by omega) _ v (by decide) hv
  · exact write_done w b t h ht 0 (by omega) _ v (by decide) hv
  · exact write_done w b t h ht 1 (by omega) _ v (by decide) hv
  · exact write_no w b t h ht off v hn ho
  · exact write_len w b t h off n v hn

end Go.Proofs.YtgimnkablodheaaDoor
