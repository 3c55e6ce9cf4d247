/- The law PlicThrough, walked. -/
import Derived.Test.YtgimnkablodheaaDoorPlThru
namespace Go.Proofs.YtgimnkablodheaaDoor
open Go.RowKit
set_option linter.unusedVariables false

theorem plc_prio {k : Nat} (hk : k < 32) : plcK (4 * (k : Int)) 4 = (0, k) := by
  unfold plcK
  rw [if_pos rfl, if_pos ⟨by omega, by omega⟩, show (4 * (k : Int) / 4).toNat = k by omega]
theorem wr_prio (t : PS) {k : Nat} (hk : 1 ≤ k) (hk2 : k < 32) (v : Int) : wrT t (plcK (4 * (k : Int)) 4) v = prioT t k (v % 8) := by
  rw [plc_prio hk2]; exact if_neg (by omega)
theorem k_mod {k : Nat} (hk2 : k < 32) : ((k : Int) % 4294967296).toNat = k := by omega
theorem k_mod2 {k : Nat} (hk2 : k < 32) : (((k : Int) + 4294967296) % 4294967296).toNat = k := by omega
theorem in_4k {k : Nat} (hk2 : k < 32) : In64 (4 * (k : Int)) := by unfold In64; omega
theorem in_k {k : Nat} (hk2 : k < 32) : In64 (k : Int) := by unfold In64; omega
theorem in_k2 {k : Nat} (hk2 : k < 32) : In64 ((k : Int) + 4294967296) := by unfold In64; omega
theorem isS_of {k : Nat} (hk1 : 1 ≤ k) (hk2 : k < 32) : isS (k : Int) = true := by unfold isS; rw [decide_eq_true (by omega)]
theorem pow_wrap {k : Nat} (hk2 : k < 32) : IntKind.u64.wrap (2 ^ k) = 2 ^ k := by
  have := two_pow_le (show k ≤ 31 by omega)
  have h3 : (0 : Int) < 2 ^ k := Int.pow_pos (by decide)
  rw [IntKind.wrap_u64]; omega
theorem pow_in {k : Nat} (hk2 : k < 32) : In64 (2 ^ k) := by
  unfold In64; have := two_pow_le (show k ≤ 31 by omega); have h3 : (0 : Int) < 2 ^ k := Int.pow_pos (by decide); omega
theorem wr_done (t : PS) (c x : Nat) (off v : Int) (hp : plcK off 4 = (4, c)) (hx : (v % 4294967296).toNat = x) : wrT t (plcK off 4) v = doneT t c x := by
  rw [hp]
  show doneT t c (v % 4294967296).toNat = _
  rw [hx]

set_option maxRecDepth 100000 in
set_option maxHeartbeats 8000000 in
theorem through_told0 (source ctx prio floor : Int) (still : Bool) (A : Int) (k : Nat) (w : World) (hA : bits .and .i64 source 1023 = A) (hA0 : 0 ≤ A) (hA1 : A ≤ 1023) (hk : 1 + A % 31 = (k : Int)) (hc : bits .and .i64 ctx 1 = 0) (hp : In64 prio) (hf : In64 floor) (P F : Int) (hP : prio % 8 = P) (hF : floor % 8 = F) (hP0 : 0 < P) (hFP : F < P) (ht : Tab w) :
    Calls Tryd.prog 7 #[.int .i64 source, .int .i64 ctx, .int .u64 prio, .int .u64 floor, .bool still] w fun e w' => e = .returned (.bool true) ∧ Below w.heap.size w w' := by
  have HT := Lib.hid ht
  have HP := Lib.hid hp
  have HFL := Lib.hid hf
  have hk1 : 1 ≤ k := by omega
  have hk2 : k < 32 := by omega
  have HKK := Lib.hid hk
  clear hk
  have hki : (k : Int) < 32 := by omega
  have hki0 : (0 : Int) < (k : Int) := by omega
  have hkn : ((k : Int) != 0) = true := by simp; omega
  have hp0 := hp.1
  have hf0 := hf.1
  have hd1 : decide (F < P) = true := decide_eq_true hFP
  have hd2 : decide (0 < P) = true := decide_eq_true hP0
  clear ht hp hf
  have hxk : ((k : Int) % 4294967296).toNat = k := k_mod hk2
  have hxz : (((k : Int) + 4294967296) % 4294967296).toNat = k := k_mod2 hk2
  have E1 : Hid (wrT (tq k 0 0 false 0 false false false) (plcK (4 * (k : Int)) 4) prio = (tq k 0 P false 0 false false false)) := Lib.hid (by rw [wr_prio _ hk1 hk2, tq_prio, hP])
  have E2 : Hid (wrT (tq k 0 P false 0 false false false) (plcK 8192 4) (2 ^ k) = (tq k 0 P true 0 false false false)) := Lib.hid (tq_on k 0 _ _ _ _ _ _ hk1)
  have E3 : Hid (wrT (tq k 0 P true 0 false false false) (plcK 2097152 4) floor = (tq k 0 P true F false false false)) := Lib.hid (by rw [← hF]; exact tq_floor k 0 _ _ _ _ _ _ _)
  have E4 : Hid (levelP (tq k 0 P true F false false false) (k : Int) true = (tq k 0 P true F true true false)) := Lib.hid (tq_level k 0 _ _ _ _ _ _ _ hk1 hk2)
  have E5 : Hid (levelP (tq k 0 P true F true true false) (k : Int) still = (tq k 0 P true F still true false)) := Lib.hid (tq_level k 0 _ _ _ _ _ _ _ hk1 hk2)
  have L5 : Hid (lineT (tq k 0 P true F still true false) 0 = true) := Lib.hid ((tq_line k 0 _ _ _ _ _ _ hk1 hk2 (by omega)).trans (by simp [hP0, hFP]))
  have M5 : Hid (lineT (tq k 0 P true F still true false) 1 = false) := Lib.hid (tq_line_off k 0 1 _ _ _ _ _ _ (by omega))
  have U5 : Hid (upT (tq k 0 P true F still true false) (k : Int) = still) := Lib.hid (tq_up k 0 _ _ _ _ _ _ hk1 hk2)
  have B5 : Hid (bestC (tq k 0 P true F still true false) ((0 : Nat) : Int) = k) := Lib.hid ((tq_best k 0 _ _ _ _ _ _ hk1 hk2 (by omega)).trans (if_pos (by simp [hP0])))
  have R5 : Hid (rdT (tq k 0 P true F still true false) (plcK 2097156 4) = (tq k 0 P true F still false true)) := Lib.hid (by show claimed _ (bestC (tq k 0 P true F still true false) ((0 : Nat) : Int)) = _; rw [B5.out]; exact tq_claim k 0 _ _ _ _ _ _ hk1)
  have X5 : Hid (rdX (tq k 0 P true F still true false) (plcK 2097156 4) = k) := Lib.hid (by show ((bestC (tq k 0 P true F still true false) ((0 : Nat) : Int) : Nat) : Int) = k; rw [B5.out])
  have D6 : Hid (wrT (tq k 0 P true F still false true) (plcK 2101252 4) k = (tq k 0 P true F still false true)) := Lib.hid ((wr_done _ 1 k 2101252 _ (by decide) hxk).trans (done_off k 0 1 _ _ _ _ _ _ _ (by omega)))
  have D7 : Hid (wrT (tq k 0 P true F still false true) (plcK 2097156 4) ((k : Int) + 4294967296) = (tq k 0 P true F still still false)) := Lib.hid ((wr_done _ 0 k 2097156 _ (by decide) hxz).trans (tq_done k 0 _ _ _ _ hk1 hk2))
  have L6 : Hid (lineT (tq k 0 P true F still false true) 0 = false) := Lib.hid ((tq_line k 0 _ _ _ _ _ _ hk1 hk2 (by omega)).trans (by simp))
  have L8 : Hid (lineT (tq k 0 P true F still still false) 0 = still) := Lib.hid ((tq_line k 0 _ _ _ _ _ _ hk1 hk2 (by omega)).trans (by simp [hP0, hFP]))
  have I1 : Hid (In64 (4 * (k : Int))) := Lib.hid (in_4k hk2)
  have I2 : Hid (In64 (2 ^ k)) := Lib.hid (pow_in hk2)
  have IV : Hid (In64 (k : Int)) := Lib.hid (in_k hk2)
  have IW : Hid (In64 ((k : Int) + 4294967296)) := Lib.hid (in_k2 hk2)
  have O1 : Hid (okP (plcK (4 * (k : Int)) 4) = true) := Lib.hid (by rw [plc_prio hk2]; rfl)
  have S1 : Hid (isS (k : Int) = true) := Lib.hid (isS_of hk1 hk2)
  clear hxk hxz
  have h2k := pow_wrap hk2
  have hk := HKK.out
  clear hP0 hFP
  go_enter Tryd.func7, Tryd.ntmps7
  go_wp2_with fail
  refine (awake_any _ HT.out).mono ?_
  rintro e v0 ⟨rfl, hb⟩
  have HB0 := Lib.hid hb
  clear hb
  go_wp2_with fail
  refine (new_is _).mono ?_
  rintro e v1 ⟨rfl, hb⟩
  have HB := Lib.hid (HB0.out.trans (hb.mono HB0.out.size))
  clear hb
  go_wp2_with (refine wpList_store_row rfl _ _ _ rfl v1.heap.size _ rfl rfl 27 _ (heap_alloc_new v1 _) (info_row _) (rowQ_39 _) (rowQ_one _) ?_)
  simp only [zerosQ_def]
  have HO := Lib.hid (OwnQ.made HB.out HT.out zerosQ p0_ok)
  generalize (v1.alloc (.cells zerosQ 27)).setRow v1.heap.size (varr 39 (cellQ p0)) = v2 at *
  obtain ⟨b, hbb⟩ : ∃ b, v1.heap.size = b := ⟨_, rfl⟩
  rw [hbb] at HO ⊢
  clear hbb HB
  have HROW := Lib.hid HO.out.row
  rw [tq_0 k 0] at HO HROW
  go_wp2_with (refine wpList_load_rowG (by rfl) _ _ rfl b rfl 27 _ _ _ HROW.out Tryd.underlying27 rfl (info_row _) ?_)
  (with_reducible refine (write_is _ b (tq k 0 0 false 0 false false false) (tq k 0 P false 0 false false false) (4 * (k : Int)) 4 prio true HO.out.pc HO.out.tab I1.out HP.out E1.out O1.out).mono ?_)
  rintro e v3 ⟨rfl, ho, hp⟩
  replace HO := Lib.hid (HO.out.turn ho hp)
  replace HROW := Lib.hid HO.out.row
  clear ho hp
  go_wp2_with (refine wpList_load_rowG (by rfl) _ _ rfl b rfl 27 _ _ _ HROW.out Tryd.underlying27 rfl (info_row _) ?_)
  (with_reducible refine (write_is _ b (tq k 0 P false 0 false false false) (tq k 0 P true 0 false false false) 8192 4 (2 ^ k) true HO.out.pc HO.out.tab (by unfold In64; decide) I2.out E2.out (by decide)).mono ?_)
  rintro e v4 ⟨rfl, ho, hp⟩
  replace HO := Lib.hid (HO.out.turn ho hp)
  replace HROW := Lib.hid HO.out.row
  clear ho hp
  go_wp2_with (refine wpList_load_rowG (by rfl) _ _ rfl b rfl 27 _ _ _ HROW.out Tryd.underlying27 rfl (info_row _) ?_)
  (with_reducible refine (write_is _ b (tq k 0 P true 0 false false false) (tq k 0 P true F false false false) 2097152 4 floor true HO.out.pc HO.out.tab (by unfold In64; decide) HFL.out E3.out (by decide)).mono ?_)
  rintro e v5 ⟨rfl, ho, hp⟩
  replace HO := Lib.hid (HO.out.turn ho hp)
  replace HROW := Lib.hid HO.out.row
  clear ho hp
  go_wp2_with (refine wpList_load_rowG (by rfl) _ _ rfl b rfl 27 _ _ _ HROW.out Tryd.underlying27 rfl (info_row _) ?_)
  (with_reducible refine (level_is _ b (tq k 0 P true F false false false) (tq k 0 P true F true true false) (k : Int) true true HO.out.pc E4.out S1.out).mono ?_)
  rintro e v6 ⟨rfl, ho, hp⟩
  replace HO := Lib.hid (HO.out.turn ho hp)
  replace HROW := Lib.hid HO.out.row
  clear ho hp
  go_wp2_with (refine wpList_load_rowG (by rfl) _ _ rfl b rfl 27 _ _ _ HROW.out Tryd.underlying27 rfl (info_row _) ?_)
  (with_reducible refine (level_is _ b (tq k 0 P true F true true false) (tq k 0 P true F still true false) (k : Int) still true HO.out.pc E5.out S1.out).mono ?_)
  rintro e v7 ⟨rfl, ho, hp⟩
  replace HO := Lib.hid (HO.out.turn ho hp)
  replace HROW := Lib.hid HO.out.row
  clear ho hp
  go_wp2_with (refine wpList_load_rowG (by rfl) _ _ rfl b rfl 27 _ _ _ HROW.out Tryd.underlying27 rfl (info_row _) ?_)
  (with_reducible refine (line_is _ (tq k 0 P true F still true false) HO.out.ok 0 true L5.out).mono ?_)
  rintro e v8 ⟨rfl, hb⟩
  replace HO := Lib.hid (HO.out.below hb)
  replace HROW := Lib.hid HO.out.row
  clear hb
  go_wp2_with (refine wpList_load_rowG (by rfl) _ _ rfl b rfl 27 _ _ _ HROW.out Tryd.underlying27 rfl (info_row _) ?_)
  (with_reducible refine (line_is _ (tq k 0 P true F still true false) HO.out.ok 1 false M5.out).mono ?_)
  rintro e v9 ⟨rfl, hb⟩
  replace HO := Lib.hid (HO.out.below hb)
  replace HROW := Lib.hid HO.out.row
  clear hb
  go_wp2_with (refine wpList_load_rowG (by rfl) _ _ rfl b rfl 27 _ _ _ HROW.out Tryd.underlying27 rfl (info_row _) ?_)
  (with_reducible refine (up_is _ (tq k 0 P true F still true false) HO.out.ok (k : Int) still U5.out).mono ?_)
  rintro e v10 ⟨rfl, hb⟩
  replace HO := Lib.hid (HO.out.below hb)
  replace HROW := Lib.hid HO.out.row
  clear hb
  go_wp2_with (refine wpList_load_rowG (by rfl) _ _ rfl b rfl 27 _ _ _ HROW.out Tryd.underlying27 rfl (info_row _) ?_)
  (with_reducible refine (read_is _ b (tq k 0 P true F still true false) (tq k 0 P true F still false true) 2097156 4 (k : Int) true HO.out.pc HO.out.tab (by unfold In64; decide) R5.out X5.out (by decide)).mono ?_)
  rintro e v11 ⟨rfl, ho, hp⟩
  replace HO := Lib.hid (HO.out.turn ho hp)
  replace HROW := Lib.hid HO.out.row
  clear ho hp
  go_wp2_with (refine wpList_load_rowG (by rfl) _ _ rfl b rfl 27 _ _ _ HROW.out Tryd.underlying27 rfl (info_row _) ?_)
  (with_reducible refine (line_is _ (tq k 0 P true F still false true) HO.out.ok 0 false L6.out).mono ?_)
  rintro e v12 ⟨rfl, hb⟩
  replace HO := Lib.hid (HO.out.below hb)
  replace HROW := Lib.hid HO.out.row
  clear hb
  go_wp2_with (refine wpList_load_rowG (by rfl) _ _ rfl b rfl 27 _ _ _ HROW.out Tryd.underlying27 rfl (info_row _) ?_)
  (with_reducible refine (write_is _ b (tq k 0 P true F still false true) (tq k 0 P true F still false true) 2101252 4 (k : Int) true HO.out.pc HO.out.tab (by unfold In64; decide) IV.out D6.out (by decide)).mono ?_)
  rintro e v13 ⟨rfl, ho, hp⟩
  replace HO := Lib.hid (HO.out.turn ho hp)
  replace HROW := Lib.hid HO.out.row
  clear ho hp
  go_wp2_with (refine wpList_load_rowG (by rfl) _ _ rfl b rfl 27 _ _ _ HROW.out Tryd.underlying27 rfl (info_row _) ?_)
  (with_reducible refine (line_is _ (tq k 0 P true F still false true) HO.out.ok 0 false L6.out).mono ?_)
  rintro e v14 ⟨rfl, hb⟩
  replace HO := Lib.hid (HO.out.below hb)
  replace HROW := Lib.hid HO.out.row
  clear hb
  go_wp2_with (refine wpList_load_rowG (by rfl) _ _ rfl b rfl 27 _ _ _ HROW.out Tryd.underlying27 rfl (info_row _) ?_)
  (with_reducible refine (write_is _ b (tq k 0 P true F still false true) (tq k 0 P true F still still false) 2097156 4 ((k : Int) + 4294967296) true HO.out.pc HO.out.tab (by unfold In64; decide) IW.out D7.out (by decide)).mono ?_)
  rintro e v15 ⟨rfl, ho, hp⟩
  replace HO := Lib.hid (HO.out.turn ho hp)
  replace HROW := Lib.hid HO.out.row
  clear ho hp
  go_wp2_with (refine wpList_load_rowG (by rfl) _ _ rfl b rfl 27 _ _ _ HROW.out Tryd.underlying27 rfl (info_row _) ?_)
  (with_reducible refine (line_is _ (tq k 0 P true F still still false) HO.out.ok 0 still L8.out).mono ?_)
  rintro e v16 ⟨rfl, hb⟩
  replace HO := Lib.hid (HO.out.below hb)
  replace HROW := Lib.hid HO.out.row
  clear hb
  go_wp2
  go_ret
  exact ⟨by simp, HO.out.bel⟩

set_option maxRecDepth 100000 in
set_option maxHeartbeats 8000000 in
theorem through_not0 (source ctx prio floor : Int) (still : Bool) (A : Int) (k : Nat) (w : World) (hA : bits .and .i64 source 1023 = A) (hA0 : 0 ≤ A) (hA1 : A ≤ 1023) (hk : 1 + A % 31 = (k : Int)) (hc : bits .and .i64 ctx 1 = 0) (hp : In64 prio) (hf : In64 floor) (P F : Int) (hP : prio % 8 = P) (hF : floor % 8 = F) (hP0 : 0 < P) (hFP : ¬ F < P) (ht : Tab w) :
    Calls Tryd.prog 7 #[.int .i64 source, .int .i64 ctx, .int .u64 prio, .int .u64 floor, .bool still] w fun e w' => e = .returned (.bool true) ∧ Below w.heap.size w w' := by
  have HT := Lib.hid ht
  have HP := Lib.hid hp
  have HFL := Lib.hid hf
  have hk1 : 1 ≤ k := by omega
  have hk2 : k < 32 := by omega
  have HKK := Lib.hid hk
  clear hk
  have hki : (k : Int) < 32 := by omega
  have hki0 : (0 : Int) < (k : Int) := by omega
  have hkn : ((k : Int) != 0) = true := by simp; omega
  have hp0 := hp.1
  have hf0 := hf.1
  have hd1 : decide (F < P) = false := decide_eq_false hFP
  have hd2 : decide (0 < P) = true := decide_eq_true hP0
  clear ht hp hf
  have hxk : ((k : Int) % 4294967296).toNat = k := k_mod hk2
  have hxz : (((k : Int) + 4294967296) % 4294967296).toNat = k := k_mod2 hk2
  have E1 : Hid (wrT (tq k 0 0 false 0 false false false) (plcK (4 * (k : Int)) 4) prio = (tq k 0 P false 0 false false false)) := Lib.hid (by rw [wr_prio _ hk1 hk2, tq_prio, hP])
  have E2 : Hid (wrT (tq k 0 P false 0 false false false) (plcK 8192 4) (2 ^ k) = (tq k 0 P true 0 false false false)) := Lib.hid (tq_on k 0 _ _ _ _ _ _ hk1)
  have E3 : Hid (wrT (tq k 0 P true 0 false false false) (plcK 2097152 4) floor = (tq k 0 P true F false false false)) := Lib.hid (by rw [← hF]; exact tq_floor k 0 _ _ _ _ _ _ _)
  have E4 : Hid (levelP (tq k 0 P true F false false false) (k : Int) true = (tq k 0 P true F true true false)) := Lib.hid (tq_level k 0 _ _ _ _ _ _ _ hk1 hk2)
  have E5 : Hid (levelP (tq k 0 P true F true true false) (k : Int) still = (tq k 0 P true F still true false)) := Lib.hid (tq_level k 0 _ _ _ _ _ _ _ hk1 hk2)
  have L5 : Hid (lineT (tq k 0 P true F still true false) 0 = false) := Lib.hid ((tq_line k 0 _ _ _ _ _ _ hk1 hk2 (by omega)).trans (by simp [hFP]))
  have M5 : Hid (lineT (tq k 0 P true F still true false) 1 = false) := Lib.hid (tq_line_off k 0 1 _ _ _ _ _ _ (by omega))
  have U5 : Hid (upT (tq k 0 P true F still true false) (k : Int) = still) := Lib.hid (tq_up k 0 _ _ _ _ _ _ hk1 hk2)
  have B5 : Hid (bestC (tq k 0 P true F still true false) ((0 : Nat) : Int) = k) := Lib.hid ((tq_best k 0 _ _ _ _ _ _ hk1 hk2 (by omega)).trans (if_pos (by simp [hP0])))
  have R5 : Hid (rdT (tq k 0 P true F still true false) (plcK 2097156 4) = (tq k 0 P true F still false true)) := Lib.hid (by show claimed _ (bestC (tq k 0 P true F still true false) ((0 : Nat) : Int)) = _; rw [B5.out]; exact tq_claim k 0 _ _ _ _ _ _ hk1)
  have X5 : Hid (rdX (tq k 0 P true F still true false) (plcK 2097156 4) = k) := Lib.hid (by show ((bestC (tq k 0 P true F still true false) ((0 : Nat) : Int) : Nat) : Int) = k; rw [B5.out])
  have D6 : Hid (wrT (tq k 0 P true F still false true) (plcK 2101252 4) k = (tq k 0 P true F still false true)) := Lib.hid ((wr_done _ 1 k 2101252 _ (by decide) hxk).trans (done_off k 0 1 _ _ _ _ _ _ _ (by omega)))
  have D7 : Hid (wrT (tq k 0 P true F still false true) (plcK 2097156 4) ((k : Int) + 4294967296) = (tq k 0 P true F still still false)) := Lib.hid ((wr_done _ 0 k 2097156 _ (by decide) hxz).trans (tq_done k 0 _ _ _ _ hk1 hk2))
  have L6 : Hid (lineT (tq k 0 P true F still false true) 0 = false) := Lib.hid ((tq_line k 0 _ _ _ _ _ _ hk1 hk2 (by omega)).trans (by simp))
  have L8 : Hid (lineT (tq k 0 P true F still still false) 0 = false) := Lib.hid ((tq_line k 0 _ _ _ _ _ _ hk1 hk2 (by omega)).trans (by simp [hFP]))
  have I1 : Hid (In64 (4 * (k : Int))) := Lib.hid (in_4k hk2)
  have I2 : Hid (In64 (2 ^ k)) := Lib.hid (pow_in hk2)
  have IV : Hid (In64 (k : Int)) := Lib.hid (in_k hk2)
  have IW : Hid (In64 ((k : Int) + 4294967296)) := Lib.hid (in_k2 hk2)
  have O1 : Hid (okP (plcK (4 * (k : Int)) 4) = true) := Lib.hid (by rw [plc_prio hk2]; rfl)
  have S1 : Hid (isS (k : Int) = true) := Lib.hid (isS_of hk1 hk2)
  clear hxk hxz
  have h2k := pow_wrap hk2
  have hk := HKK.out
  clear hP0 hFP
  go_enter Tryd.func7, Tryd.ntmps7
  go_wp2_with fail
  refine (awake_any _ HT.out).mono ?_
  rintro e v0 ⟨rfl, hb⟩
  have HB0 := Lib.hid hb
  clear hb
  go_wp2_with fail
  refine (new_is _).mono ?_
  rintro e v1 ⟨rfl, hb⟩
  have HB := Lib.hid (HB0.out.trans (hb.mono HB0.out.size))
  clear hb
  go_wp2_with (refine wpList_store_row rfl _ _ _ rfl v1.heap.size _ rfl rfl 27 _ (heap_alloc_new v1 _) (info_row _) (rowQ_39 _) (rowQ_one _) ?_)
  simp only [zerosQ_def]
  have HO := Lib.hid (OwnQ.made HB.out HT.out zerosQ p0_ok)
  generalize (v1.alloc (.cells zerosQ 27)).setRow v1.heap.size (varr 39 (cellQ p0)) = v2 at *
  obtain ⟨b, hbb⟩ : ∃ b, v1.heap.size = b := ⟨_, rfl⟩
  rw [hbb] at HO ⊢
  clear hbb HB
  have HROW := Lib.hid HO.out.row
  rw [tq_0 k 0] at HO HROW
  go_wp2_with (refine wpList_load_rowG (by rfl) _ _ rfl b rfl 27 _ _ _ HROW.out Tryd.underlying27 rfl (info_row _) ?_)
  (with_reducible refine (write_is _ b (tq k 0 0 false 0 false false false) (tq k 0 P false 0 false false false) (4 * (k : Int)) 4 prio true HO.out.pc HO.out.tab I1.out HP.out E1.out O1.out).mono ?_)
  rintro e v3 ⟨rfl, ho, hp⟩
  replace HO := Lib.hid (HO.out.turn ho hp)
  replace HROW := Lib.hid HO.out.row
  clear ho hp
  go_wp2_with (refine wpList_load_rowG (by rfl) _ _ rfl b rfl 27 _ _ _ HROW.out Tryd.underlying27 rfl (info_row _) ?_)
  (with_reducible refine (write_is _ b (tq k 0 P false 0 false false false) (tq k 0 P true 0 false false false) 8192 4 (2 ^ k) true HO.out.pc HO.out.tab (by unfold In64; decide) I2.out E2.out (by decide)).mono ?_)
  rintro e v4 ⟨rfl, ho, hp⟩
  replace HO := Lib.hid (HO.out.turn ho hp)
  replace HROW := Lib.hid HO.out.row
  clear ho hp
  go_wp2_with (refine wpList_load_rowG (by rfl) _ _ rfl b rfl 27 _ _ _ HROW.out Tryd.underlying27 rfl (info_row _) ?_)
  (with_reducible refine (write_is _ b (tq k 0 P true 0 false false false) (tq k 0 P true F false false false) 2097152 4 floor true HO.out.pc HO.out.tab (by unfold In64; decide) HFL.out E3.out (by decide)).mono ?_)
  rintro e v5 ⟨rfl, ho, hp⟩
  replace HO := Lib.hid (HO.out.turn ho hp)
  replace HROW := Lib.hid HO.out.row
  clear ho hp
  go_wp2_with (refine wpList_load_rowG (by rfl) _ _ rfl b rfl 27 _ _ _ HROW.out Tryd.underlying27 rfl (info_row _) ?_)
  (with_reducible refine (level_is _ b (tq k 0 P true F false false false) (tq k 0 P true F true true false) (k : Int) true true HO.out.pc E4.out S1.out).mono ?_)
  rintro e v6 ⟨rfl, ho, hp⟩
  replace HO := Lib.hid (HO.out.turn ho hp)
  replace HROW := Lib.hid HO.out.row
  clear ho hp
  go_wp2_with (refine wpList_load_rowG (by rfl) _ _ rfl b rfl 27 _ _ _ HROW.out Tryd.underlying27 rfl (info_row _) ?_)
  (with_reducible refine (level_is _ b (tq k 0 P true F true true false) (tq k 0 P true F still true false) (k : Int) still true HO.out.pc E5.out S1.out).mono ?_)
  rintro e v7 ⟨rfl, ho, hp⟩
  replace HO := Lib.hid (HO.out.turn ho hp)
  replace HROW := Lib.hid HO.out.row
  clear ho hp
  go_wp2_with (refine wpList_load_rowG (by rfl) _ _ rfl b rfl 27 _ _ _ HROW.out Tryd.underlying27 rfl (info_row _) ?_)
  (with_reducible refine (line_is _ (tq k 0 P true F still true false) HO.out.ok 0 false L5.out).mono ?_)
  rintro e v8 ⟨rfl, hb⟩
  replace HO := Lib.hid (HO.out.below hb)
  replace HROW := Lib.hid HO.out.row
  clear hb
  go_wp2_with (refine wpList_load_rowG (by rfl) _ _ rfl b rfl 27 _ _ _ HROW.out Tryd.underlying27 rfl (info_row _) ?_)
  (with_reducible refine (line_is _ (tq k 0 P true F still true false) HO.out.ok 1 false M5.out).mono ?_)
  rintro e v9 ⟨rfl, hb⟩
  replace HO := Lib.hid (HO.out.below hb)
  replace HROW := Lib.hid HO.out.row
  clear hb
  go_wp2_with (refine wpList_load_rowG (by rfl) _ _ rfl b rfl 27 _ _ _ HROW.out Tryd.underlying27 rfl (info_row _) ?_)
  (with_reducible refine (up_is _ (tq k 0 P true F still true false) HO.out.ok (k : Int) still U5.out).mono ?_)
  rintro e v10 ⟨rfl, hb⟩
  replace HO := Lib.hid (HO.out.below hb)
  replace HROW := Lib.hid HO.out.row
  clear hb
  go_wp2_with (refine wpList_load_rowG (by rfl) _ _ rfl b rfl 27 _ _ _ HROW.out Tryd.underlying27 rfl (info_row _) ?_)
  (with_reducible refine (read_is _ b (tq k 0 P true F still true false) (tq k 0 P true F still false true) 2097156 4 (k : Int) true HO.out.pc HO.out.tab (by unfold In64; decide) R5.out X5.out (by decide)).mono ?_)
  rintro e v11 ⟨rfl, ho, hp⟩
  replace HO := Lib.hid (HO.out.turn ho hp)
  replace HROW := Lib.hid HO.out.row
  clear ho hp
  go_wp2_with (refine wpList_load_rowG (by rfl) _ _ rfl b rfl 27 _ _ _ HROW.out Tryd.underlying27 rfl (info_row _) ?_)
  (with_reducible refine (line_is _ (tq k 0 P true F still false true) HO.out.ok 0 false L6.out).mono ?_)
  rintro e v12 ⟨rfl, hb⟩
  replace HO := Lib.hid (HO.out.below hb)
  replace HROW := Lib.hid HO.out.row
  clear hb
  go_wp2_with (refine wpList_load_rowG (by rfl) _ _ rfl b rfl 27 _ _ _ HROW.out Tryd.underlying27 rfl (info_row _) ?_)
  (with_reducible refine (write_is _ b (tq k 0 P true F still false true) (tq k 0 P true F still false true) 2101252 4 (k : Int) true HO.out.pc HO.out.tab (by unfold In64; decide) IV.out D6.out (by decide)).mono ?_)
  rintro e v13 ⟨rfl, ho, hp⟩
  replace HO := Lib.hid (HO.out.turn ho hp)
  replace HROW := Lib.hid HO.out.row
  clear ho hp
  go_wp2_with (refine wpList_load_rowG (by rfl) _ _ rfl b rfl 27 _ _ _ HROW.out Tryd.underlying27 rfl (info_row _) ?_)
  (with_reducible refine (line_is _ (tq k 0 P true F still false true) HO.out.ok 0 false L6.out).mono ?_)
  rintro e v14 ⟨rfl, hb⟩
  replace HO := Lib.hid (HO.out.below hb)
  replace HROW := Lib.hid HO.out.row
  clear hb
  go_wp2_with (refine wpList_load_rowG (by rfl) _ _ rfl b rfl 27 _ _ _ HROW.out Tryd.underlying27 rfl (info_row _) ?_)
  (with_reducible refine (write_is _ b (tq k 0 P true F still false true) (tq k 0 P true F still still false) 2097156 4 ((k : Int) + 4294967296) true HO.out.pc HO.out.tab (by unfold In64; decide) IW.out D7.out (by decide)).mono ?_)
  rintro e v15 ⟨rfl, ho, hp⟩
  replace HO := Lib.hid (HO.out.turn ho hp)
  replace HROW := Lib.hid HO.out.row
  clear ho hp
  go_wp2_with (refine wpList_load_rowG (by rfl) _ _ rfl b rfl 27 _ _ _ HROW.out Tryd.underlying27 rfl (info_row _) ?_)
  (with_reducible refine (line_is _ (tq k 0 P true F still still false) HO.out.ok 0 false L8.out).mono ?_)
  rintro e v16 ⟨rfl, hb⟩
  replace HO := Lib.hid (HO.out.below hb)
  replace HROW := Lib.hid HO.out.row
  clear hb
  go_wp2
  go_ret
  exact ⟨by simp, HO.out.bel⟩

set_option maxRecDepth 100000 in
set_option maxHeartbeats 8000000 in
theorem through_zero0 (source ctx prio floor : Int) (still : Bool) (A : Int) (k : Nat) (w : World) (hA : bits .and .i64 source 1023 = A) (hA0 : 0 ≤ A) (hA1 : A ≤ 1023) (hk : 1 + A % 31 = (k : Int)) (hc : bits .and .i64 ctx 1 = 0) (hp : In64 prio) (hf : In64 floor) (F : Int) (hP : prio % 8 = 0) (hF : floor % 8 = F) (ht : Tab w) :
    Calls Tryd.prog 7 #[.int .i64 source, .int .i64 ctx, .int .u64 prio, .int .u64 floor, .bool still] w fun e w' => e = .returned (.bool true) ∧ Below w.heap.size w w' := by
  have HT := Lib.hid ht
  have HP := Lib.hid hp
  have HFL := Lib.hid hf
  have hk1 : 1 ≤ k := by omega
  have hk2 : k < 32 := by omega
  have HKK := Lib.hid hk
  clear hk
  have hki : (k : Int) < 32 := by omega
  have hki0 : (0 : Int) < (k : Int) := by omega
  have hkn : ((k : Int) != 0) = true := by simp; omega
  have hp0 := hp.1
  have hf0 := hf.1
  have hF0 : 0 ≤ F := by omega
  have hd1 : decide (F < 0) = false := decide_eq_false (by omega)
  have hk0 : ((0 : Int) == (k : Int)) = false := by simp; omega
  clear ht hp hf
  have hx0 : ((0 : Int) % 4294967296).toNat = 0 := by decide
  have hxz : ((4294967296 : Int) % 4294967296).toNat = 0 := by decide
  have E1 : Hid (wrT (tq k 0 0 false 0 false false false) (plcK (4 * (k : Int)) 4) prio = (tq k 0 0 false 0 false false false)) := Lib.hid (by rw [wr_prio _ hk1 hk2, tq_prio, hP])
  have E2 : Hid (wrT (tq k 0 0 false 0 false false false) (plcK 8192 4) (2 ^ k) = (tq k 0 0 true 0 false false false)) := Lib.hid (tq_on k 0 _ _ _ _ _ _ hk1)
  have E3 : Hid (wrT (tq k 0 0 true 0 false false false) (plcK 2097152 4) floor = (tq k 0 0 true F false false false)) := Lib.hid (by rw [← hF]; exact tq_floor k 0 _ _ _ _ _ _ _)
  have E4 : Hid (levelP (tq k 0 0 true F false false false) (k : Int) true = (tq k 0 0 true F true true false)) := Lib.hid (tq_level k 0 _ _ _ _ _ _ _ hk1 hk2)
  have E5 : Hid (levelP (tq k 0 0 true F true true false) (k : Int) still = (tq k 0 0 true F still true false)) := Lib.hid (tq_level k 0 _ _ _ _ _ _ _ hk1 hk2)
  have L5 : Hid (lineT (tq k 0 0 true F still true false) 0 = false) := Lib.hid ((tq_line k 0 _ _ _ _ _ _ hk1 hk2 (by omega)).trans (by simp))
  have M5 : Hid (lineT (tq k 0 0 true F still true false) 1 = false) := Lib.hid (tq_line_off k 0 1 _ _ _ _ _ _ (by omega))
  have U5 : Hid (upT (tq k 0 0 true F still true false) (k : Int) = still) := Lib.hid (tq_up k 0 _ _ _ _ _ _ hk1 hk2)
  have B5 : Hid (bestC (tq k 0 0 true F still true false) ((0 : Nat) : Int) = 0) := Lib.hid ((tq_best k 0 _ _ _ _ _ _ hk1 hk2 (by omega)).trans (by simp))
  have R5 : Hid (rdT (tq k 0 0 true F still true false) (plcK 2097156 4) = (tq k 0 0 true F still true false)) := Lib.hid (by show claimed _ (bestC (tq k 0 0 true F still true false) ((0 : Nat) : Int)) = _; rw [B5.out]; exact claimed_0 _)
  have X5 : Hid (rdX (tq k 0 0 true F still true false) (plcK 2097156 4) = 0) := Lib.hid (by show ((bestC (tq k 0 0 true F still true false) ((0 : Nat) : Int) : Nat) : Int) = 0; rw [B5.out]; rfl)
  have D6 : Hid (wrT (tq k 0 0 true F still true false) (plcK 2101252 4) 0 = (tq k 0 0 true F still true false)) := Lib.hid ((wr_done _ 1 0 2101252 _ (by decide) hx0).trans (done_0 _ _))
  have D7 : Hid (wrT (tq k 0 0 true F still true false) (plcK 2097156 4) 4294967296 = (tq k 0 0 true F still true false)) := Lib.hid ((wr_done _ 0 0 2097156 _ (by decide) hxz).trans (done_0 _ _))
  have L6 : Hid (lineT (tq k 0 0 true F still true false) 0 = false) := Lib.hid ((tq_line k 0 _ _ _ _ _ _ hk1 hk2 (by omega)).trans (by simp))
  have L8 : Hid (lineT (tq k 0 0 true F still true false) 0 = false) := Lib.hid ((tq_line k 0 _ _ _ _ _ _ hk1 hk2 (by omega)).trans (by simp))
  have I1 : Hid (In64 (4 * (k : Int))) := Lib.hid (in_4k hk2)
  have I2 : Hid (In64 (2 ^ k)) := Lib.hid (pow_in hk2)
  have IV : Hid (In64 0) := Lib.hid (by unfold In64; decide)
  have IW : Hid (In64 4294967296) := Lib.hid (by unfold In64; decide)
  have O1 : Hid (okP (plcK (4 * (k : Int)) 4) = true) := Lib.hid (by rw [plc_prio hk2]; rfl)
  have S1 : Hid (isS (k : Int) = true) := Lib.hid (isS_of hk1 hk2)
  clear hx0 hxz
  have h2k := pow_wrap hk2
  have hk := HKK.out
  skip
  go_enter Tryd.func7, Tryd.ntmps7
  go_wp2_with fail
  refine (awake_any _ HT.out).mono ?_
  rintro e v0 ⟨rfl, hb⟩
  have HB0 := Lib.hid hb
  clear hb
  go_wp2_with fail
  refine (new_is _).mono ?_
  rintro e v1 ⟨rfl, hb⟩
  have HB := Lib.hid (HB0.out.trans (hb.mono HB0.out.size))
  clear hb
  go_wp2_with (refine wpList_store_row rfl _ _ _ rfl v1.heap.size _ rfl rfl 27 _ (heap_alloc_new v1 _) (info_row _) (rowQ_39 _) (rowQ_one _) ?_)
  simp only [zerosQ_def]
  have HO := Lib.hid (OwnQ.made HB.out HT.out zerosQ p0_ok)
  generalize (v1.alloc (.cells zerosQ 27)).setRow v1.heap.size (varr 39 (cellQ p0)) = v2 at *
  obtain ⟨b, hbb⟩ : ∃ b, v1.heap.size = b := ⟨_, rfl⟩
  rw [hbb] at HO ⊢
  clear hbb HB
  have HROW := Lib.hid HO.out.row
  rw [tq_0 k 0] at HO HROW
  go_wp2_with (refine wpList_load_rowG (by rfl) _ _ rfl b rfl 27 _ _ _ HROW.out Tryd.underlying27 rfl (info_row _) ?_)
  (with_reducible refine (write_is _ b (tq k 0 0 false 0 false false false) (tq k 0 0 false 0 false false false) (4 * (k : Int)) 4 prio true HO.out.pc HO.out.tab I1.out HP.out E1.out O1.out).mono ?_)
  rintro e v3 ⟨rfl, ho, hp⟩
  replace HO := Lib.hid (HO.out.turn ho hp)
  replace HROW := Lib.hid HO.out.row
  clear ho hp
  go_wp2_with (refine wpList_load_rowG (by rfl) _ _ rfl b rfl 27 _ _ _ HROW.out Tryd.underlying27 rfl (info_row _) ?_)
  (with_reducible refine (write_is _ b (tq k 0 0 false 0 false false false) (tq k 0 0 true 0 false false false) 8192 4 (2 ^ k) true HO.out.pc HO.out.tab (by unfold In64; decide) I2.out E2.out (by decide)).mono ?_)
  rintro e v4 ⟨rfl, ho, hp⟩
  replace HO := Lib.hid (HO.out.turn ho hp)
  replace HROW := Lib.hid HO.out.row
  clear ho hp
  go_wp2_with (refine wpList_load_rowG (by rfl) _ _ rfl b rfl 27 _ _ _ HROW.out Tryd.underlying27 rfl (info_row _) ?_)
  (with_reducible refine (write_is _ b (tq k 0 0 true 0 false false false) (tq k 0 0 true F false false false) 2097152 4 floor true HO.out.pc HO.out.tab (by unfold In64; decide) HFL.out E3.out (by decide)).mono ?_)
  rintro e v5 ⟨rfl, ho, hp⟩
  replace HO := Lib.hid (HO.out.turn ho hp)
  replace HROW := Lib.hid HO.out.row
  clear ho hp
  go_wp2_with (refine wpList_load_rowG (by rfl) _ _ rfl b rfl 27 _ _ _ HROW.out Tryd.underlying27 rfl (info_row _) ?_)
  (with_reducible refine (level_is _ b (tq k 0 0 true F false false false) (tq k 0 0 true F true true false) (k : Int) true true HO.out.pc E4.out S1.out).mono ?_)
  rintro e v6 ⟨rfl, ho, hp⟩
  replace HO := Lib.hid (HO.out.turn ho hp)
  replace HROW := Lib.hid HO.out.row
  clear ho hp
  go_wp2_with (refine wpList_load_rowG (by rfl) _ _ rfl b rfl 27 _ _ _ HROW.out Tryd.underlying27 rfl (info_row _) ?_)
  (with_reducible refine (level_is _ b (tq k 0 0 true F true true false) (tq k 0 0 true F still true false) (k : Int) still true HO.out.pc E5.out S1.out).mono ?_)
  rintro e v7 ⟨rfl, ho, hp⟩
  replace HO := Lib.hid (HO.out.turn ho hp)
  replace HROW := Lib.hid HO.out.row
  clear ho hp
  go_wp2_with (refine wpList_load_rowG (by rfl) _ _ rfl b rfl 27 _ _ _ HROW.out Tryd.underlying27 rfl (info_row _) ?_)
  (with_reducible refine (line_is _ (tq k 0 0 true F still true false) HO.out.ok 0 false L5.out).mono ?_)
  rintro e v8 ⟨rfl, hb⟩
  replace HO := Lib.hid (HO.out.below hb)
  replace HROW := Lib.hid HO.out.row
  clear hb
  go_wp2_with (refine wpList_load_rowG (by rfl) _ _ rfl b rfl 27 _ _ _ HROW.out Tryd.underlying27 rfl (info_row _) ?_)
  (with_reducible refine (line_is _ (tq k 0 0 true F still true false) HO.out.ok 1 false M5.out).mono ?_)
  rintro e v9 ⟨rfl, hb⟩
  replace HO := Lib.hid (HO.out.below hb)
  replace HROW := Lib.hid HO.out.row
  clear hb
  go_wp2_with (refine wpList_load_rowG (by rfl) _ _ rfl b rfl 27 _ _ _ HROW.out Tryd.underlying27 rfl (info_row _) ?_)
  (with_reducible refine (up_is _ (tq k 0 0 true F still true false) HO.out.ok (k : Int) still U5.out).mono ?_)
  rintro e v10 ⟨rfl, hb⟩
  replace HO := Lib.hid (HO.out.below hb)
  replace HROW := Lib.hid HO.out.row
  clear hb
  go_wp2_with (refine wpList_load_rowG (by rfl) _ _ rfl b rfl 27 _ _ _ HROW.out Tryd.underlying27 rfl (info_row _) ?_)
  (with_reducible refine (read_is _ b (tq k 0 0 true F still true false) (tq k 0 0 true F still true false) 2097156 4 0 true HO.out.pc HO.out.tab (by unfold In64; decide) R5.out X5.out (by decide)).mono ?_)
  rintro e v11 ⟨rfl, ho, hp⟩
  replace HO := Lib.hid (HO.out.turn ho hp)
  replace HROW := Lib.hid HO.out.row
  clear ho hp
  go_wp2_with (refine wpList_load_rowG (by rfl) _ _ rfl b rfl 27 _ _ _ HROW.out Tryd.underlying27 rfl (info_row _) ?_)
  (with_reducible refine (line_is _ (tq k 0 0 true F still true false) HO.out.ok 0 false L6.out).mono ?_)
  rintro e v12 ⟨rfl, hb⟩
  replace HO := Lib.hid (HO.out.below hb)
  replace HROW := Lib.hid HO.out.row
  clear hb
  go_wp2_with (refine wpList_load_rowG (by rfl) _ _ rfl b rfl 27 _ _ _ HROW.out Tryd.underlying27 rfl (info_row _) ?_)
  (with_reducible refine (write_is _ b (tq k 0 0 true F still true false) (tq k 0 0 true F still true false) 2101252 4 0 true HO.out.pc HO.out.tab (by unfold In64; decide) IV.out D6.out (by decide)).mono ?_)
  rintro e v13 ⟨rfl, ho, hp⟩
  replace HO := Lib.hid (HO.out.turn ho hp)
  replace HROW := Lib.hid HO.out.row
  clear ho hp
  go_wp2_with (refine wpList_load_rowG (by rfl) _ _ rfl b rfl 27 _ _ _ HROW.out Tryd.underlying27 rfl (info_row _) ?_)
  (with_reducible refine (line_is _ (tq k 0 0 true F still true false) HO.out.ok 0 false L6.out).mono ?_)
  rintro e v14 ⟨rfl, hb⟩
  replace HO := Lib.hid (HO.out.below hb)
  replace HROW := Lib.hid HO.out.row
  clear hb
  go_wp2_with (refine wpList_load_rowG (by rfl) _ _ rfl b rfl 27 _ _ _ HROW.out Tryd.underlying27 rfl (info_row _) ?_)
  (with_reducible refine (write_is _ b (tq k 0 0 true F still true false) (tq k 0 0 true F still true false) 2097156 4 4294967296 true HO.out.pc HO.out.tab (by unfold In64; decide) IW.out D7.out (by decide)).mono ?_)
  rintro e v15 ⟨rfl, ho, hp⟩
  replace HO := Lib.hid (HO.out.turn ho hp)
  replace HROW := Lib.hid HO.out.row
  clear ho hp
  go_wp2_with (refine wpList_load_rowG (by rfl) _ _ rfl b rfl 27 _ _ _ HROW.out Tryd.underlying27 rfl (info_row _) ?_)
  (with_reducible refine (line_is _ (tq k 0 0 true F still true false) HO.out.ok 0 false L8.out).mono ?_)
  rintro e v16 ⟨rfl, hb⟩
  replace HO := Lib.hid (HO.out.below hb)
  replace HROW := Lib.hid HO.out.row
  clear hb
  go_wp2
  go_ret
  exact ⟨by simp, HO.out.bel⟩

set_option maxRecDepth 100000 in
set_option maxHeartbeats 8000000 in
theorem through_told1 (source ctx prio floor : Int) (still : Bool) (A : Int) (k : Nat) (w : World) (hA : bits .and .i64 source 1023 = A) (hA0 : 0 ≤ A) (hA1 : A ≤ 1023) (hk : 1 + A % 31 = (k : Int)) (hc : bits .and .i64 ctx 1 = 1) (hp : In64 prio) (hf : In64 floor) (P F : Int) (hP : prio % 8 = P) (hF : floor % 8 = F) (hP0 : 0 < P) (hFP : F < P) (ht : Tab w) :
    Calls Tryd.prog 7 #[.int .i64 source, .int .i64 ctx, .int .u64 prio, .int .u64 floor, .bool still] w fun e w' => e = .returned (.bool true) ∧ Below w.heap.size w w' := by
  have HT := Lib.hid ht
  have HP := Lib.hid hp
  have HFL := Lib.hid hf
  have hk1 : 1 ≤ k := by omega
  have hk2 : k < 32 := by omega
  have HKK := Lib.hid hk
  clear hk
  have hki : (k : Int) < 32 := by omega
  have hki0 : (0 : Int) < (k : Int) := by omega
  have hkn : ((k : Int) != 0) = true := by simp; omega
  have hp0 := hp.1
  have hf0 := hf.1
  have hd1 : decide (F < P) = true := decide_eq_true hFP
  have hd2 : decide (0 < P) = true := decide_eq_true hP0
  clear ht hp hf
  have hxk : ((k : Int) % 4294967296).toNat = k := k_mod hk2
  have hxz : (((k : Int) + 4294967296) % 4294967296).toNat = k := k_mod2 hk2
  have E1 : Hid (wrT (tq k 1 0 false 0 false false false) (plcK (4 * (k : Int)) 4) prio = (tq k 1 P false 0 false false false)) := Lib.hid (by rw [wr_prio _ hk1 hk2, tq_prio, hP])
  have E2 : Hid (wrT (tq k 1 P false 0 false false false) (plcK 8320 4) (2 ^ k) = (tq k 1 P true 0 false false false)) := Lib.hid (tq_on k 1 _ _ _ _ _ _ hk1)
  have E3 : Hid (wrT (tq k 1 P true 0 false false false) (plcK 2101248 4) floor = (tq k 1 P true F false false false)) := Lib.hid (by rw [← hF]; exact tq_floor k 1 _ _ _ _ _ _ _)
  have E4 : Hid (levelP (tq k 1 P true F false false false) (k : Int) true = (tq k 1 P true F true true false)) := Lib.hid (tq_level k 1 _ _ _ _ _ _ _ hk1 hk2)
  have E5 : Hid (levelP (tq k 1 P true F true true false) (k : Int) still = (tq k 1 P true F still true false)) := Lib.hid (tq_level k 1 _ _ _ _ _ _ _ hk1 hk2)
  have L5 : Hid (lineT (tq k 1 P true F still true false) 1 = true) := Lib.hid ((tq_line k 1 _ _ _ _ _ _ hk1 hk2 (by omega)).trans (by simp [hP0, hFP]))
  have M5 : Hid (lineT (tq k 1 P true F still true false) 0 = false) := Lib.hid (tq_line_off k 1 0 _ _ _ _ _ _ (by omega))
  have U5 : Hid (upT (tq k 1 P true F still true false) (k : Int) = still) := Lib.hid (tq_up k 1 _ _ _ _ _ _ hk1 hk2)
  have B5 : Hid (bestC (tq k 1 P true F still true false) ((1 : Nat) : Int) = k) := Lib.hid ((tq_best k 1 _ _ _ _ _ _ hk1 hk2 (by omega)).trans (if_pos (by simp [hP0])))
  have R5 : Hid (rdT (tq k 1 P true F still true false) (plcK 2101252 4) = (tq k 1 P true F still false true)) := Lib.hid (by show claimed _ (bestC (tq k 1 P true F still true false) ((1 : Nat) : Int)) = _; rw [B5.out]; exact tq_claim k 1 _ _ _ _ _ _ hk1)
  have X5 : Hid (rdX (tq k 1 P true F still true false) (plcK 2101252 4) = k) := Lib.hid (by show ((bestC (tq k 1 P true F still true false) ((1 : Nat) : Int) : Nat) : Int) = k; rw [B5.out])
  have D6 : Hid (wrT (tq k 1 P true F still false true) (plcK 2097156 4) k = (tq k 1 P true F still false true)) := Lib.hid ((wr_done _ 0 k 2097156 _ (by decide) hxk).trans (done_off k 1 0 _ _ _ _ _ _ _ (by omega)))
  have D7 : Hid (wrT (tq k 1 P true F still false true) (plcK 2101252 4) ((k : Int) + 4294967296) = (tq k 1 P true F still still false)) := Lib.hid ((wr_done _ 1 k 2101252 _ (by decide) hxz).trans (tq_done k 1 _ _ _ _ hk1 hk2))
  have L6 : Hid (lineT (tq k 1 P true F still false true) 1 = false) := Lib.hid ((tq_line k 1 _ _ _ _ _ _ hk1 hk2 (by omega)).trans (by simp))
  have L8 : Hid (lineT (tq k 1 P true F still still false) 1 = still) := Lib.hid ((tq_line k 1 _ _ _ _ _ _ hk1 hk2 (by omega)).trans (by simp [hP0, hFP]))
  have I1 : Hid (In64 (4 * (k : Int))) := Lib.hid (in_4k hk2)
  have I2 : Hid (In64 (2 ^ k)) := Lib.hid (pow_in hk2)
  have IV : Hid (In64 (k : Int)) := Lib.hid (in_k hk2)
  have IW : Hid (In64 ((k : Int) + 4294967296)) := Lib.hid (in_k2 hk2)
  have O1 : Hid (okP (plcK (4 * (k : Int)) 4) = true) := Lib.hid (by rw [plc_prio hk2]; rfl)
  have S1 : Hid (isS (k : Int) = true) := Lib.hid (isS_of hk1 hk2)
  clear hxk hxz
  have h2k := pow_wrap hk2
  have hk := HKK.out
  clear hP0 hFP
  go_enter Tryd.func7, Tryd.ntmps7
  go_wp2_with fail
  refine (awake_any _ HT.out).mono ?_
  rintro e v0 ⟨rfl, hb⟩
  have HB0 := Lib.hid hb
  clear hb
  go_wp2_with fail
  refine (new_is _).mono ?_
  rintro e v1 ⟨rfl, hb⟩
  have HB := Lib.hid (HB0.out.trans (hb.mono HB0.out.size))
  clear hb
  go_wp2_with (refine wpList_store_row rfl _ _ _ rfl v1.heap.size _ rfl rfl 27 _ (heap_alloc_new v1 _) (info_row _) (rowQ_39 _) (rowQ_one _) ?_)
  simp only [zerosQ_def]
  have HO := Lib.hid (OwnQ.made HB.out HT.out zerosQ p0_ok)
  generalize (v1.alloc (.cells zerosQ 27)).setRow v1.heap.size (varr 39 (cellQ p0)) = v2 at *
  obtain ⟨b, hbb⟩ : ∃ b, v1.heap.size = b := ⟨_, rfl⟩
  rw [hbb] at HO ⊢
  clear hbb HB
  have HROW := Lib.hid HO.out.row
  rw [tq_0 k 1] at HO HROW
  go_wp2_with (refine wpList_load_rowG (by rfl) _ _ rfl b rfl 27 _ _ _ HROW.out Tryd.underlying27 rfl (info_row _) ?_)
  (with_reducible refine (write_is _ b (tq k 1 0 false 0 false false false) (tq k 1 P false 0 false false false) (4 * (k : Int)) 4 prio true HO.out.pc HO.out.tab I1.out HP.out E1.out O1.out).mono ?_)
  rintro e v3 ⟨rfl, ho, hp⟩
  replace HO := Lib.hid (HO.out.turn ho hp)
  replace HROW := Lib.hid HO.out.row
  clear ho hp
  go_wp2_with (refine wpList_load_rowG (by rfl) _ _ rfl b rfl 27 _ _ _ HROW.out Tryd.underlying27 rfl (info_row _) ?_)
  (with_reducible refine (write_is _ b (tq k 1 P false 0 false false false) (tq k 1 P true 0 false false false) 8320 4 (2 ^ k) true HO.out.pc HO.out.tab (by unfold In64; decide) I2.out E2.out (by decide)).mono ?_)
  rintro e v4 ⟨rfl, ho, hp⟩
  replace HO := Lib.hid (HO.out.turn ho hp)
  replace HROW := Lib.hid HO.out.row
  clear ho hp
  go_wp2_with (refine wpList_load_rowG (by rfl) _ _ rfl b rfl 27 _ _ _ HROW.out Tryd.underlying27 rfl (info_row _) ?_)
  (with_reducible refine (write_is _ b (tq k 1 P true 0 false false false) (tq k 1 P true F false false false) 2101248 4 floor true HO.out.pc HO.out.tab (by unfold In64; decide) HFL.out E3.out (by decide)).mono ?_)
  rintro e v5 ⟨rfl, ho, hp⟩
  replace HO := Lib.hid (HO.out.turn ho hp)
  replace HROW := Lib.hid HO.out.row
  clear ho hp
  go_wp2_with (refine wpList_load_rowG (by rfl) _ _ rfl b rfl 27 _ _ _ HROW.out Tryd.underlying27 rfl (info_row _) ?_)
  (with_reducible refine (level_is _ b (tq k 1 P true F false false false) (tq k 1 P true F true true false) (k : Int) true true HO.out.pc E4.out S1.out).mono ?_)
  rintro e v6 ⟨rfl, ho, hp⟩
  replace HO := Lib.hid (HO.out.turn ho hp)
  replace HROW := Lib.hid HO.out.row
  clear ho hp
  go_wp2_with (refine wpList_load_rowG (by rfl) _ _ rfl b rfl 27 _ _ _ HROW.out Tryd.underlying27 rfl (info_row _) ?_)
  (with_reducible refine (level_is _ b (tq k 1 P true F true true false) (tq k 1 P true F still true false) (k : Int) still true HO.out.pc E5.out S1.out).mono ?_)
  rintro e v7 ⟨rfl, ho, hp⟩
  replace HO := Lib.hid (HO.out.turn ho hp)
  replace HROW := Lib.hid HO.out.row
  clear ho hp
  go_wp2_with (refine wpList_load_rowG (by rfl) _ _ rfl b rfl 27 _ _ _ HROW.out Tryd.underlying27 rfl (info_row _) ?_)
  (with_reducible refine (line_is _ (tq k 1 P true F still true false) HO.out.ok 1 true L5.out).mono ?_)
  rintro e v8 ⟨rfl, hb⟩
  replace HO := Lib.hid (HO.out.below hb)
  replace HROW := Lib.hid HO.out.row
  clear hb
  go_wp2_with (refine wpList_load_rowG (by rfl) _ _ rfl b rfl 27 _ _ _ HROW.out Tryd.underlying27 rfl (info_row _) ?_)
  (with_reducible refine (line_is _ (tq k 1 P true F still true false) HO.out.ok 0 false M5.out).mono ?_)
  rintro e v9 ⟨rfl, hb⟩
  replace HO := Lib.hid (HO.out.below hb)
  replace HROW := Lib.hid HO.out.row
  clear hb
  go_wp2_with (refine wpList_load_rowG (by rfl) _ _ rfl b rfl 27 _ _ _ HROW.out Tryd.underlying27 rfl (info_row _) ?_)
  (with_reducible refine (up_is _ (tq k 1 P true F still true false) HO.out.ok (k : Int) still U5.out).mono ?_)
  rintro e v10 ⟨rfl, hb⟩
  replace HO := Lib.hid (HO.out.below hb)
  replace HROW := Lib.hid HO.out.row
  clear hb
  go_wp2_with (refine wpList_load_rowG (by rfl) _ _ rfl b rfl 27 _ _ _ HROW.out Tryd.underlying27 rfl (info_row _) ?_)
  (with_reducible refine (read_is _ b (tq k 1 P true F still true false) (tq k 1 P true F still false true) 2101252 4 (k : Int) true HO.out.pc HO.out.tab (by unfold In64; decide) R5.out X5.out (by decide)).mono ?_)
  rintro e v11 ⟨rfl, ho, hp⟩
  replace HO := Lib.hid (HO.out.turn ho hp)
  replace HROW := Lib.hid HO.out.row
  clear ho hp
  go_wp2_with (refine wpList_load_rowG (by rfl) _ _ rfl b rfl 27 _ _ _ HROW.out Tryd.underlying27 rfl (info_row _) ?_)
  (with_reducible refine (line_is _ (tq k 1 P true F still false true) HO.out.ok 1 false L6.out).mono ?_)
  rintro e v12 ⟨rfl, hb⟩
  replace HO := Lib.hid (HO.out.below hb)
  replace HROW := Lib.hid HO.out.row
  clear hb
  go_wp2_with (refine wpList_load_rowG (by rfl) _ _ rfl b rfl 27 _ _ _ HROW.out Tryd.underlying27 rfl (info_row _) ?_)
  (with_reducible refine (write_is _ b (tq k 1 P true F still false true) (tq k 1 P true F still false true) 2097156 4 (k : Int) true HO.out.pc HO.out.tab (by unfold In64; decide) IV.out D6.out (by decide)).mono ?_)
  rintro e v13 ⟨rfl, ho, hp⟩
  replace HO := Lib.hid (HO.out.turn ho hp)
  replace HROW := Lib.hid HO.out.row
  clear ho hp
  go_wp2_with (refine wpList_load_rowG (by rfl) _ _ rfl b rfl 27 _ _ _ HROW.out Tryd.underlying27 rfl (info_row _) ?_)
  (with_reducible refine (line_is _ (tq k 1 P true F still false true) HO.out.ok 1 false L6.out).mono ?_)
  rintro e v14 ⟨rfl, hb⟩
  replace HO := Lib.hid (HO.out.below hb)
  replace HROW := Lib.hid HO.out.row
  clear hb
  go_wp2_with (refine wpList_load_rowG (by rfl) _ _ rfl b rfl 27 _ _ _ HROW.out Tryd.underlying27 rfl (info_row _) ?_)
  (with_reducible refine (write_is _ b (tq k 1 P true F still false true) (tq k 1 P true F still still false) 2101252 4 ((k : Int) + 4294967296) true HO.out.pc HO.out.tab (by unfold In64; decide) IW.out D7.out (by decide)).mono ?_)
  rintro e v15 ⟨rfl, ho, hp⟩
  replace HO := Lib.hid (HO.out.turn ho hp)
  replace HROW := Lib.hid HO.out.row
  clear ho hp
  go_wp2_with (refine wpList_load_rowG (by rfl) _ _ rfl b rfl 27 _ _ _ HROW.out Tryd.underlying27 rfl (info_row _) ?_)
  (with_reducible refine (line_is _ (tq k 1 P true F still still false) HO.out.ok 1 still L8.out).mono ?_)
  rintro e v16 ⟨rfl, hb⟩
  replace HO := Lib.hid (HO.out.below hb)
  replace HROW := Lib.hid HO.out.row
  clear hb
  go_wp2
  go_ret
  exact ⟨by simp, HO.out.bel⟩

set_option maxRecDepth 100000 in
set_option maxHeartbeats 8000000 in
theorem through_not1 (source ctx prio floor : Int) (still : Bool) (A : Int) (k : Nat) (w : World) (hA : bits .and .i64 source 1023 = A) (hA0 : 0 ≤ A) (hA1 : A ≤ 1023) (hk : 1 + A % 31 = (k : Int)) (hc : bits .and .i64 ctx 1 = 1) (hp : In64 prio) (hf : In64 floor) (P F : Int) (hP : prio % 8 = P) (hF : floor % 8 = F) (hP0 : 0 < P) (hFP : ¬ F < P) (ht : Tab w) :
    Calls Tryd.prog 7 #[.int .i64 source, .int .i64 ctx, .int .u64 prio, .int .u64 floor, .bool still] w fun e w' => e = .returned (.bool true) ∧ Below w.heap.size w w' := by
  have HT := Lib.hid ht
  have HP := Lib.hid hp
  have HFL := Lib.hid hf
  have hk1 : 1 ≤ k := by omega
  have hk2 : k < 32 := by omega
  have HKK := Lib.hid hk
  clear hk
  have hki : (k : Int) < 32 := by omega
  have hki0 : (0 : Int) < (k : Int) := by omega
  have hkn : ((k : Int) != 0) = true := by simp; omega
  have hp0 := hp.1
  have hf0 := hf.1
  have hd1 : decide (F < P) = false := decide_eq_false hFP
  have hd2 : decide (0 < P) = true := decide_eq_true hP0
  clear ht hp hf
  have hxk : ((k : Int) % 4294967296).toNat = k := k_mod hk2
  have hxz : (((k : Int) + 4294967296) % 4294967296).toNat = k := k_mod2 hk2
  have E1 : Hid (wrT (tq k 1 0 false 0 false false false) (plcK (4 * (k : Int)) 4) prio = (tq k 1 P false 0 false false false)) := Lib.hid (by rw [wr_prio _ hk1 hk2, tq_prio, hP])
  have E2 : Hid (wrT (tq k 1 P false 0 false false false) (plcK 8320 4) (2 ^ k) = (tq k 1 P true 0 false false false)) := Lib.hid (tq_on k 1 _ _ _ _ _ _ hk1)
  have E3 : Hid (wrT (tq k 1 P true 0 false false false) (plcK 2101248 4) floor = (tq k 1 P true F false false false)) := Lib.hid (by rw [← hF]; exact tq_floor k 1 _ _ _ _ _ _ _)
  have E4 : Hid (levelP (tq k 1 P true F false false false) (k : Int) true = (tq k 1 P true F true true false)) := Lib.hid (tq_level k 1 _ _ _ _ _ _ _ hk1 hk2)
  have E5 : Hid (levelP (tq k 1 P true F true true false) (k : Int) still = (tq k 1 P true F still true false)) := Lib.hid (tq_level k 1 _ _ _ _ _ _ _ hk1 hk2)
  have L5 : Hid (lineT (tq k 1 P true F still true false) 1 = false) := Lib.hid ((tq_line k 1 _ _ _ _ _ _ hk1 hk2 (by omega)).trans (by simp [hFP]))
  have M5 : Hid (lineT (tq k 1 P true F still true false) 0 = false) := Lib.hid (tq_line_off k 1 0 _ _ _ _ _ _ (by omega))
  have U5 : Hid (upT (tq k 1 P true F still true false) (k : Int) = still) := Lib.hid (tq_up k 1 _ _ _ _ _ _ hk1 hk2)
  have B5 : Hid (bestC (tq k 1 P true F still true false) ((1 : Nat) : Int) = k) := Lib.hid ((tq_best k 1 _ _ _ _ _ _ hk1 hk2 (by omega)).trans (if_pos (by simp [hP0])))
  have R5 : Hid (rdT (tq k 1 P true F still true false) (plcK 2101252 4) = (tq k 1 P true F still false true)) := Lib.hid (by show claimed _ (bestC (tq k 1 P true F still true false) ((1 : Nat) : Int)) = _; rw [B5.out]; exact tq_claim k 1 _ _ _ _ _ _ hk1)
  have X5 : Hid (rdX (tq k 1 P true F still true false) (plcK 2101252 4) = k) := Lib.hid (by show ((bestC (tq k 1 P true F still true false) ((1 : Nat) : Int) : Nat) : Int) = k; rw [B5.out])
  have D6 : Hid (wrT (tq k 1 P true F still false true) (plcK 2097156 4) k = (tq k 1 P true F still false true)) := Lib.hid ((wr_done _ 0 k 2097156 _ (by decide) hxk).trans (done_off k 1 0 _ _ _ _ _ _ _ (by omega)))
  have D7 : Hid (wrT (tq k 1 P true F still false true) (plcK 2101252 4) ((k : Int) + 4294967296) = (tq k 1 P true F still still false)) := Lib.hid ((wr_done _ 1 k 2101252 _ (by decide) hxz).trans (tq_done k 1 _ _ _ _ hk1 hk2))
  have L6 : Hid (lineT (tq k 1 P true F still false true) 1 = false) := Lib.hid ((tq_line k 1 _ _ _ _ _ _ hk1 hk2 (by omega)).trans (by simp))
  have L8 : Hid (lineT (tq k 1 P true F still still false) 1 = false) := Lib.hid ((tq_line k 1 _ _ _ _ _ _ hk1 hk2 (by omega)).trans (by simp [hFP]))
  have I1 : Hid (In64 (4 * (k : Int))) := Lib.hid (in_4k hk2)
  have I2 : Hid (In64 (2 ^ k)) := Lib.hid (pow_in hk2)
  have IV : Hid (In64 (k : Int)) := Lib.hid (in_k hk2)
  have IW : Hid (In64 ((k : Int) + 4294967296)) := Lib.hid (in_k2 hk2)
  have O1 : Hid (okP (plcK (4 * (k : Int)) 4) = true) := Lib.hid (by rw [plc_prio hk2]; rfl)
  have S1 : Hid (isS (k : Int) = true) := Lib.hid (isS_of hk1 hk2)
  clear hxk hxz
  have h2k := pow_wrap hk2
  have hk := HKK.out
  clear hP0 hFP
  go_enter Tryd.func7, Tryd.ntmps7
  go_wp2_with fail
  refine (awake_any _ HT.out).mono ?_
  rintro e v0 ⟨rfl, hb⟩
  have HB0 := Lib.hid hb
  clear hb
  go_wp2_with fail
  refine (new_is _).mono ?_
  rintro e v1 ⟨rfl, hb⟩
  have HB := Lib.hid (HB0.out.trans (hb.mono HB0.out.size))
  clear hb
  go_wp2_with (refine wpList_store_row rfl _ _ _ rfl v1.heap.size _ rfl rfl 27 _ (heap_alloc_new v1 _) (info_row _) (rowQ_39 _) (rowQ_one _) ?_)
  simp only [zerosQ_def]
  have HO := Lib.hid (OwnQ.made HB.out HT.out zerosQ p0_ok)
  generalize (v1.alloc (.cells zerosQ 27)).setRow v1.heap.size (varr 39 (cellQ p0)) = v2 at *
  obtain ⟨b, hbb⟩ : ∃ b, v1.heap.size = b := ⟨_, rfl⟩
  rw [hbb] at HO ⊢
  clear hbb HB
  have HROW := Lib.hid HO.out.row
  rw [tq_0 k 1] at HO HROW
  go_wp2_with (refine wpList_load_rowG (by rfl) _ _ rfl b rfl 27 _ _ _ HROW.out Tryd.underlying27 rfl (info_row _) ?_)
  (with_reducible refine (write_is _ b (tq k 1 0 false 0 false false false) (tq k 1 P false 0 false false false) (4 * (k : Int)) 4 prio true HO.out.pc HO.out.tab I1.out HP.out E1.out O1.out).mono ?_)
  rintro e v3 ⟨rfl, ho, hp⟩
  replace HO := Lib.hid (HO.out.turn ho hp)
  replace HROW := Lib.hid HO.out.row
  clear ho hp
  go_wp2_with (refine wpList_load_rowG (by rfl) _ _ rfl b rfl 27 _ _ _ HROW.out Tryd.underlying27 rfl (info_row _) ?_)
  (with_reducible refine (write_is _ b (tq k 1 P false 0 false false false) (tq k 1 P true 0 false false false) 8320 4 (2 ^ k) true HO.out.pc HO.out.tab (by unfold In64; decide) I2.out E2.out (by decide)).mono ?_)
  rintro e v4 ⟨rfl, ho, hp⟩
  replace HO := Lib.hid (HO.out.turn ho hp)
  replace HROW := Lib.hid HO.out.row
  clear ho hp
  go_wp2_with (refine wpList_load_rowG (by rfl) _ _ rfl b rfl 27 _ _ _ HROW.out Tryd.underlying27 rfl (info_row _) ?_)
  (with_reducible refine (write_is _ b (tq k 1 P true 0 false false false) (tq k 1 P true F false false false) 2101248 4 floor true HO.out.pc HO.out.tab (by unfold In64; decide) HFL.out E3.out (by decide)).mono ?_)
  rintro e v5 ⟨rfl, ho, hp⟩
  replace HO := Lib.hid (HO.out.turn ho hp)
  replace HROW := Lib.hid HO.out.row
  clear ho hp
  go_wp2_with (refine wpList_load_rowG (by rfl) _ _ rfl b rfl 27 _ _ _ HROW.out Tryd.underlying27 rfl (info_row _) ?_)
  (with_reducible refine (level_is _ b (tq k 1 P true F false false false) (tq k 1 P true F true true false) (k : Int) true true HO.out.pc E4.out S1.out).mono ?_)
  rintro e v6 ⟨rfl, ho, hp⟩
  replace HO := Lib.hid (HO.out.turn ho hp)
  replace HROW := Lib.hid HO.out.row
  clear ho hp
  go_wp2_with (refine wpList_load_rowG (by rfl) _ _ rfl b rfl 27 _ _ _ HROW.out Tryd.underlying27 rfl (info_row _) ?_)
  (with_reducible refine (level_is _ b (tq k 1 P true F true true false) (tq k 1 P true F still true false) (k : Int) still true HO.out.pc E5.out S1.out).mono ?_)
  rintro e v7 ⟨rfl, ho, hp⟩
  replace HO := Lib.hid (HO.out.turn ho hp)
  replace HROW := Lib.hid HO.out.row
  clear ho hp
  go_wp2_with (refine wpList_load_rowG (by rfl) _ _ rfl b rfl 27 _ _ _ HROW.out Tryd.underlying27 rfl (info_row _) ?_)
  (with_reducible refine (line_is _ (tq k 1 P true F still true false) HO.out.ok 1 false L5.out).mono ?_)
  rintro e v8 ⟨rfl, hb⟩
  replace HO := Lib.hid (HO.out.below hb)
  replace HROW := Lib.hid HO.out.row
  clear hb
  go_wp2_with (refine wpList_load_rowG (by rfl) _ _ rfl b rfl 27 _ _ _ HROW.out Tryd.underlying27 rfl (info_row _) ?_)
  (with_reducible refine (line_is _ (tq k 1 P true F still true false) HO.out.ok 0 false M5.out).mono ?_)
  rintro e v9 ⟨rfl, hb⟩
  replace HO := Lib.hid (HO.out.below hb)
  replace HROW := Lib.hid HO.out.row
  clear hb
  go_wp2_with (refine wpList_load_rowG (by rfl) _ _ rfl b rfl 27 _ _ _ HROW.out Tryd.underlying27 rfl (info_row _) ?_)
  (with_reducible refine (up_is _ (tq k 1 P true F still true false) HO.out.ok (k : Int) still U5.out).mono ?_)
  rintro e v10 ⟨rfl, hb⟩
  replace HO := Lib.hid (HO.out.below hb)
  replace HROW := Lib.hid HO.out.row
  clear hb
  go_wp2_with (refine wpList_load_rowG (by rfl) _ _ rfl b rfl 27 _ _ _ HROW.out Tryd.underlying27 rfl (info_row _) ?_)
  (with_reducible refine (read_is _ b (tq k 1 P true F still true false) (tq k 1 P true F still false true) 2101252 4 (k : Int) true HO.out.pc HO.out.tab (by unfold In64; decide) R5.out X5.out (by decide)).mono ?_)
  rintro e v11 ⟨rfl, ho, hp⟩
  replace HO := Lib.hid (HO.out.turn ho hp)
  replace HROW := Lib.hid HO.out.row
  clear ho hp
  go_wp2_with (refine wpList_load_rowG (by rfl) _ _ rfl b rfl 27 _ _ _ HROW.out Tryd.underlying27 rfl (info_row _) ?_)
  (with_reducible refine (line_is _ (tq k 1 P true F still false true) HO.out.ok 1 false L6.out).mono ?_)
  rintro e v12 ⟨rfl, hb⟩
  replace HO := Lib.hid (HO.out.below hb)
  replace HROW := Lib.hid HO.out.row
  clear hb
  go_wp2_with (refine wpList_load_rowG (by rfl) _ _ rfl b rfl 27 _ _ _ HROW.out Tryd.underlying27 rfl (info_row _) ?_)
  (with_reducible refine (write_is _ b (tq k 1 P true F still false true) (tq k 1 P true F still false true) 2097156 4 (k : Int) true HO.out.pc HO.out.tab (by unfold In64; decide) IV.out D6.out (by decide)).mono ?_)
  rintro e v13 ⟨rfl, ho, hp⟩
  replace HO := Lib.hid (HO.out.turn ho hp)
  replace HROW := Lib.hid HO.out.row
  clear ho hp
  go_wp2_with (refine wpList_load_rowG (by rfl) _ _ rfl b rfl 27 _ _ _ HROW.out Tryd.underlying27 rfl (info_row _) ?_)
  (with_reducible refine (line_is _ (tq k 1 P true F still false true) HO.out.ok 1 false L6.out).mono ?_)
  rintro e v14 ⟨rfl, hb⟩
  replace HO := Lib.hid (HO.out.below hb)
  replace HROW := Lib.hid HO.out.row
  clear hb
  go_wp2_with (refine wpList_load_rowG (by rfl) _ _ rfl b rfl 27 _ _ _ HROW.out Tryd.underlying27 rfl (info_row _) ?_)
  (with_reducible refine (write_is _ b (tq k 1 P true F still false true) (tq k 1 P true F still still false) 2101252 4 ((k : Int) + 4294967296) true HO.out.pc HO.out.tab (by unfold In64; decide) IW.out D7.out (by decide)).mono ?_)
  rintro e v15 ⟨rfl, ho, hp⟩
  replace HO := Lib.hid (HO.out.turn ho hp)
  replace HROW := Lib.hid HO.out.row
  clear ho hp
  go_wp2_with (refine wpList_load_rowG (by rfl) _ _ rfl b rfl 27 _ _ _ HROW.out Tryd.underlying27 rfl (info_row _) ?_)
  (with_reducible refine (line_is _ (tq k 1 P true F still still false) HO.out.ok 1 false L8.out).mono ?_)
  rintro e v16 ⟨rfl, hb⟩
  replace HO := Lib.hid (HO.out.below hb)
  replace HROW := Lib.hid HO.out.row
  clear hb
  go_wp2
  go_ret
  exact ⟨by simp, HO.out.bel⟩

set_option maxRecDepth 100000 in
set_option maxHeartbeats 8000000 in
theorem through_zero1 (source ctx prio floor : Int) (still : Bool) (A : Int) (k : Nat) (w : World) (hA : bits .and .i64 source 1023 = A) (hA0 : 0 ≤ A) (hA1 : A ≤ 1023) (hk : 1 + A % 31 = (k : Int)) (hc : bits .and .i64 ctx 1 = 1) (hp : In64 prio) (hf : In64 floor) (F : Int) (hP : prio % 8 = 0) (hF : floor % 8 = F) (ht : Tab w) :
    Calls Tryd.prog 7 #[.int .i64 source, .int .i64 ctx, .int .u64 prio, .int .u64 floor, .bool still] w fun e w' => e = .returned (.bool true) ∧ Below w.heap.size w w' := by
  have HT := Lib.hid ht
  have HP := Lib.hid hp
  have HFL := Lib.hid hf
  have hk1 : 1 ≤ k := by omega
  have hk2 : k < 32 := by omega
  have HKK := Lib.hid hk
  clear hk
  have hki : (k : Int) < 32 := by omega
  have hki0 : (0 : Int) < (k : Int) := by omega
  have hkn : ((k : Int) != 0) = true := by simp; omega
  have hp0 := hp.1
  have hf0 := hf.1
  have hF0 : 0 ≤ F := by omega
  have hd1 : decide (F < 0) = false := decide_eq_false (by omega)
  have hk0 : ((0 : Int) == (k : Int)) = false := by simp; omega
  clear ht hp hf
  have hx0 : ((0 : Int) % 4294967296).toNat = 0 := by decide
  have hxz : ((4294967296 : Int) % 4294967296).toNat = 0 := by decide
  have E1 : Hid (wrT (tq k 1 0 false 0 false false false) (plcK (4 * (k : Int)) 4) prio = (tq k 1 0 false 0 false false false)) := Lib.hid (by rw [wr_prio _ hk1 hk2, tq_prio, hP])
  have E2 : Hid (wrT (tq k 1 0 false 0 false false false) (plcK 8320 4) (2 ^ k) = (tq k 1 0 true 0 false false false)) := Lib.hid (tq_on k 1 _ _ _ _ _ _ hk1)
  have E3 : Hid (wrT (tq k 1 0 true 0 false false false) (plcK 2101248 4) floor = (tq k 1 0 true F false false false)) := Lib.hid (by rw [← hF]; exact tq_floor k 1 _ _ _ _ _ _ _)
  have E4 : Hid (levelP (tq k 1 0 true F false false false) (k : Int) true = (tq k 1 0 true F true true false)) := Lib.hid (tq_level k 1 _ _ _ _ _ _ _ hk1 hk2)
  have E5 : Hid (levelP (tq k 1 0 true F true true false) (k : Int) still = (tq k 1 0 true F still true false)) := Lib.hid (tq_level k 1 _ _ _ _ _ _ _ hk1 hk2)
  have L5 : Hid (lineT (tq k 1 0 true F still true false) 1 = false) := Lib.hid ((tq_line k 1 _ _ _ _ _ _ hk1 hk2 (by omega)).trans (by simp))
  have M5 : Hid (lineT (tq k 1 0 true F still true false) 0 = false) := Lib.hid (tq_line_off k 1 0 _ _ _ _ _ _ (by omega))
  have U5 : Hid (upT (tq k 1 0 true F still true false) (k : Int) = still) := Lib.hid (tq_up k 1 _ _ _ _ _ _ hk1 hk2)
  have B5 : Hid (bestC (tq k 1 0 true F still true false) ((1 : Nat) : Int) = 0) := Lib.hid ((tq_best k 1 _ _ _ _ _ _ hk1 hk2 (by omega)).trans (by simp))
  have R5 : Hid (rdT (tq k 1 0 true F still true false) (plcK 2101252 4) = (tq k 1 0 true F still true false)) := Lib.hid (by show claimed _ (bestC (tq k 1 0 true F still true false) ((1 : Nat) : Int)) = _; rw [B5.out]; exact claimed_0 _)
  have X5 : Hid (rdX (tq k 1 0 true F still true false) (plcK 2101252 4) = 0) := Lib.hid (by show ((bestC (tq k 1 0 true F still true false) ((1 : Nat) : Int) : Nat) : Int) = 0; rw [B5.out]; rfl)
  have D6 : Hid (wrT (tq k 1 0 true F still true false) (plcK 2097156 4) 0 = (tq k 1 0 true F still true false)) := Lib.hid ((wr_done _ 0 0 2097156 _ (by decide) hx0).trans (done_0 _ _))
  have D7 : Hid (wrT (tq k 1 0 true F still true false) (plcK 2101252 4) 4294967296 = (tq k 1 0 true F still true false)) := Lib.hid ((wr_done _ 1 0 2101252 _ (by decide) hxz).trans (done_0 _ _))
  have L6 : Hid (lineT (tq k 1 0 true F still true false) 1 = false) := Lib.hid ((tq_line k 1 _ _ _ _ _ _ hk1 hk2 (by omega)).trans (by simp))
  have L8 : Hid (lineT (tq k 1 0 true F still true false) 1 = false) := Lib.hid ((tq_line k 1 _ _ _ _ _ _ hk1 hk2 (by omega)).trans (by simp))
  have I1 : Hid (In64 (4 * (k : Int))) := Lib.hid (in_4k hk2)
  have I2 : Hid (In64 (2 ^ k)) := Lib.hid (pow_in hk2)
  have IV : Hid (In64 0) := Lib.hid (by unfold In64; decide)
  have IW : Hid (In64 4294967296) := Lib.hid (by unfold In64; decide)
  have O1 : Hid (okP (plcK (4 * (k : Int)) 4) = true) := Lib.hid (by rw [plc_prio hk2]; rfl)
  have S1 : Hid (isS (k : Int) = true) := Lib.hid (isS_of hk1 hk2)
  clear hx0 hxz
  have h2k := pow_wrap hk2
  have hk := HKK.out
  skip
  go_enter Tryd.func7, Tryd.ntmps7
  go_wp2_with fail
  refine (awake_any _ HT.out).mono ?_
  rintro e v0 ⟨rfl, hb⟩
  have HB0 := Lib.hid hb
  clear hb
  go_wp2_with fail
  refine (new_is _).mono ?_
  rintro e v1 ⟨rfl, hb⟩
  have HB := Lib.hid (HB0.out.trans (hb.mono HB0.out.size))
  clear hb
  go_wp2_with (refine wpList_store_row rfl _ _ _ rfl v1.heap.size _ rfl rfl 27 _ (heap_alloc_new v1 _) (info_row _) (rowQ_39 _) (rowQ_one _) ?_)
  simp only [zerosQ_def]
  have HO := Lib.hid (OwnQ.made HB.out HT.out zerosQ p0_ok)
  generalize (v1.alloc (.cells zerosQ 27)).setRow v1.heap.size (varr 39 (cellQ p0)) = v2 at *
  obtain ⟨b, hbb⟩ : ∃ b, v1.heap.size = b := ⟨_, rfl⟩
  rw [hbb] at HO ⊢
  clear hbb HB
  have HROW := Lib.hid HO.out.row
  rw [tq_0 k 1] at HO HROW
  go_wp2_with (refine wpList_load_rowG (by rfl) _ _ rfl b rfl 27 _ _ _ HROW.out Tryd.underlying27 rfl (info_row _) ?_)
  (with_reducible refine (write_is _ b (tq k 1 0 false 0 false false false) (tq k 1 0 false 0 false false false) (4 * (k : Int)) 4 prio true HO.out.pc HO.out.tab I1.out HP.out E1.out O1.out).mono ?_)
  rintro e v3 ⟨rfl, ho, hp⟩
  replace HO := Lib.hid (HO.out.turn ho hp)
  replace HROW := Lib.hid HO.out.row
  clear ho hp
  go_wp2_with (refine wpList_load_rowG (by rfl) _ _ rfl b rfl 27 _ _ _ HROW.out Tryd.underlying27 rfl (info_row _) ?_)
  (with_reducible refine (write_is _ b (tq k 1 0 false 0 false false false) (tq k 1 0 true 0 false false false) 8320 4 (2 ^ k) true HO.out.pc HO.out.tab (by unfold In64; decide) I2.out E2.out (by decide)).mono ?_)
  rintro e v4 ⟨rfl, ho, hp⟩
  replace HO := Lib.hid (HO.out.turn ho hp)
  replace HROW := Lib.hid HO.out.row
  clear ho hp
  go_wp2_with (refine wpList_load_rowG (by rfl) _ _ rfl b rfl 27 _ _ _ HROW.out Tryd.underlying27 rfl (info_row _) ?_)
  (with_reducible refine (write_is _ b (tq k 1 0 true 0 false false false) (tq k 1 0 true F false false false) 2101248 4 floor true HO.out.pc HO.out.tab (by unfold In64; decide) HFL.out E3.out (by decide)).mono ?_)
  rintro e v5 ⟨rfl, ho, hp⟩
  replace HO := Lib.hid (HO.out.turn ho hp)
  replace HROW := Lib.hid HO.out.row
  clear ho hp
  go_wp2_with (refine wpList_load_rowG (by rfl) _ _ rfl b rfl 27 _ _ _ HROW.out Tryd.underlying27 rfl (info_row _) ?_)
  (with_reducible refine (level_is _ b (tq k 1 0 true F false false false) (tq k 1 0 true F true true false) (k : Int) true true HO.out.pc E4.out S1.out).mono ?_)
  rintro e v6 ⟨rfl, ho, hp⟩
  replace HO := Lib.hid (HO.out.turn ho hp)
  replace HROW := Lib.hid HO.out.row
  clear ho hp
  go_wp2_with (refine wpList_load_rowG (by rfl) _ _ rfl b rfl 27 _ _ _ HROW.out Tryd.underlying27 rfl (info_row _) ?_)
  (with_reducible refine (level_is _ b (tq k 1 0 true F true true false) (tq k 1 0 true F still true false) (k : Int) still true HO.out.pc E5.out S1.out).mono ?_)
  rintro e v7 ⟨rfl, ho, hp⟩
  replace HO := Lib.hid (HO.out.turn ho hp)
  replace HROW := Lib.hid HO.out.row
  clear ho hp
  go_wp2_with (refine wpList_load_rowG (by rfl) _ _ rfl b rfl 27 _ _ _ HROW.out Tryd.underlying27 rfl (info_row _) ?_)
  (with_reducible refine (line_is _ (tq k 1 0 true F still true false) HO.out.ok 1 false L5.out).mono ?_)
  rintro e v8 ⟨rfl, hb⟩
  replace HO := Lib.hid (HO.out.below hb)
  replace HROW := Lib.hid HO.out.row
  clear hb
  go_wp2_with (refine wpList_load_rowG (by rfl) _ _ rfl b rfl 27 _ _ _ HROW.out Tryd.underlying27 rfl (info_row _) ?_)
  (with_reducible refine (line_is _ (tq k 1 0 true F still true false) HO.out.ok 0 false M5.out).mono ?_)
  rintro e v9 ⟨rfl, hb⟩
  replace HO := Lib.hid (HO.out.below hb)
  replace HROW := Lib.hid HO.out.row
  clear hb
  go_wp2_with (refine wpList_load_rowG (by rfl) _ _ rfl b rfl 27 _ _ _ HROW.out Tryd.underlying27 rfl (info_row _) ?_)
  (with_reducible refine (up_is _ (tq k 1 0 true F still true false) HO.out.ok (k : Int) still U5.out).mono ?_)
  rintro e v10 ⟨rfl, hb⟩
  replace HO := Lib.hid (HO.out.below hb)
  replace HROW := Lib.hid HO.out.row
  clear hb
  go_wp2_with (refine wpList_load_rowG (by rfl) _ _ rfl b rfl 27 _ _ _ HROW.out Tryd.underlying27 rfl (info_row _) ?_)
  (with_reducible refine (read_is _ b (tq k 1 0 true F still true false) (tq k 1 0 true F still true false) 2101252 4 0 true HO.out.pc HO.out.tab (by unfold In64; decide) R5.out X5.out (by decide)).mono ?_)
  rintro e v11 ⟨rfl, ho, hp⟩
  replace HO := Lib.hid (HO.out.turn ho hp)
  replace HROW := Lib.hid HO.out.row
  clear ho hp
  go_wp2_with (refine wpList_load_rowG (by rfl) _ _ rfl b rfl 27 _ _ _ HROW.out Tryd.underlying27 rfl (info_row _) ?_)
  (with_reducible refine (line_is _ (tq k 1 0 true F still true false) HO.out.ok 1 false L6.out).mono ?_)
  rintro e v12 ⟨rfl, hb⟩
  replace HO := Lib.hid (HO.out.below hb)
  replace HROW := Lib.hid HO.out.row
  clear hb
  go_wp2_with (refine wpList_load_rowG (by rfl) _ _ rfl b rfl 27 _ _ _ HROW.out Tryd.underlying27 rfl (info_row _) ?_)
  (with_reducible refine (write_is _ b (tq k 1 0 true F still true false) (tq k 1 0 true F still true false) 2097156 4 0 true HO.out.pc HO.out.tab (by unfold In64; decide) IV.out D6.out (by decide)).mono ?_)
  rintro e v13 ⟨rfl, ho, hp⟩
  replace HO := Lib.hid (HO.out.turn ho hp)
  replace HROW := Lib.hid HO.out.row
  clear ho hp
  go_wp2_with (refine wpList_load_rowG (by rfl) _ _ rfl b rfl 27 _ _ _ HROW.out Tryd.underlying27 rfl (info_row _) ?_)
  (with_reducible refine (line_is _ (tq k 1 0 true F still true false) HO.out.ok 1 false L6.out).mono ?_)
  rintro e v14 ⟨rfl, hb⟩
  replace HO := Lib.hid (HO.out.below hb)
  replace HROW := Lib.hid HO.out.row
  clear hb
  go_wp2_with (refine wpList_load_rowG (by rfl) _ _ rfl b rfl 27 _ _ _ HROW.out Tryd.underlying27 rfl (info_row _) ?_)
  (with_reducible refine (write_is _ b (tq k 1 0 true F still true false) (tq k 1 0 true F still true false) 2101252 4 4294967296 true HO.out.pc HO.out.tab (by unfold In64; decide) IW.out D7.out (by decide)).mono ?_)
  rintro e v15 ⟨rfl, ho, hp⟩
  replace HO := Lib.hid (HO.out.turn ho hp)
  replace HROW := Lib.hid HO.out.row
  clear ho hp
  go_wp2_with (refine wpList_load_rowG (by rfl) _ _ rfl b rfl 27 _ _ _ HROW.out Tryd.underlying27 rfl (info_row _) ?_)
  (with_reducible refine (line_is _ (tq k 1 0 true F still true false) HO.out.ok 1 false L8.out).mono ?_)
  rintro e v16 ⟨rfl, hb⟩
  replace HO := Lib.hid (HO.out.below hb)
  replace HROW := Lib.hid HO.out.row
  clear hb
  go_wp2
  go_ret
  exact ⟨by simp, HO.out.bel⟩

theorem plicThrough_walk (source ctx prio floor : Int) (still : Bool) (w : World) (hs : In63 source) (hc : In63 ctx) (hp : In64 prio) (hf : In64 floor) (ht : Tab w) :
    Calls Tryd.prog 7 #[.int .i64 source, .int .i64 ctx, .int .u64 prio, .int .u64 floor, .bool still] w fun e w' => e = .returned (.bool true) ∧ Below w.heap.size w w' := by
  have hA := and_i64 source 1023 (by omega)
  have hC := and_i64 ctx 1 (by omega)
  obtain ⟨A, hAe⟩ : ∃ A, bits .and .i64 source ((1023 : Nat) : Int) = A := ⟨_, rfl⟩
  rw [hAe] at hA
  have hk : 1 + A % 31 = (((1 + A % 31).toNat : Nat) : Int) := by omega
  have hp1 := Int.emod_nonneg prio (show (8 : Int) ≠ 0 by decide)
  have c01 : bits .and .i64 ctx 1 = 0 ∨ bits .and .i64 ctx 1 = 1 := by
    have h1 : 0 ≤ bits .and .i64 ctx 1 := hC.1
    have h2 : bits .and .i64 ctx 1 ≤ 1 := hC.2
    omega
  rcases c01 with c0 | c1
  · by_cases hz : prio % 8 = 0
    · exact through_zero0 source ctx prio floor still A _ w hAe hA.1 hA.2 hk c0 hp hf _ hz rfl ht
    · by_cases hq : floor % 8 < prio % 8
      · exact through_told0 source ctx prio floor still A _ w hAe hA.1 hA.2 hk c0 hp hf _ _ rfl rfl (by omega) hq ht
      · exact through_not0 source ctx prio floor still A _ w hAe hA.1 hA.2 hk c0 hp hf _ _ rfl rfl (by omega) hq ht
  · by_cases hz : prio % 8 = 0
    · exact through_zero1 source ctx prio floor still A _ w hAe hA.1 hA.2 hk c1 hp hf _ hz rfl ht
    · by_cases hq : floor % 8 < prio % 8
      · exact through_told1 source ctx prio floor still A _ w hAe hA.1 hA.2 hk c1 hp hf _ _ rfl rfl (by omega) hq ht
      · exact through_not1 source ctx prio floor still A _ w hAe hA.1 hA.2 hk c1 hp hf _ _ rfl rfl (by omega) hq ht

end Go.Proofs.YtgimnkablodheaaDoor
