/- Layer 11: the walk of CsrnoRises (written by gen_cnlaws2.py). -/
import Derived.Test.YtcnalabhcalfnaaCnN
namespace Go.Proofs.Ytcnalabhcalfnaa
open Go.RowKit
set_option linter.unusedVariables false
set_option maxRecDepth 100000

theorem HartB.other {w : World} {b : Nat} {t : HS} (h : HartB w b t) {a : Addr} {v : Value} (ha : b ≠ a.block) : HartB (w.setCell a v) b t := by
  unfold HartB; rw [heap_setCell_other w a b v ha]; exact h
theorem copy_hart (w : World) (t t0 : HS) : HartB ((w.alloc (.cells (varr 77 (hCell t0)) 32)).setRow w.heap.size (varr 77 (hCell t))) w.heap.size t ∧ Below w.heap.size w ((w.alloc (.cells (varr 77 (hCell t0)) 32)).setRow w.heap.size (varr 77 (hCell t))) :=
  ⟨setRow_heap _ _ _ _ _ _ (heap_alloc_new w _), below_setRow ((Below.refl _ _).alloc (Nat.le_refl _) _) (Nat.le_refl _) _⟩
theorem rises_abc (t : HS) (no : Int) (wr : Bool) : abcB (chkZ (t.put 33 0) no wr) (chkZ (t.put 33 1) no wr) (chkZ (t.put 33 3) no wr) t.v = true := by
  rw [chkZ_P, chkZ_P, chkZ_P]
  exact rises_bools _ _ _ _ _ _ _ _ _ _ _ _ _
def AbcW (a b c : Int) (v : Bool) : Prop := (v = false ∧ ((a = 2 ∧ b = 2 ∧ c = 2) ∨ (a = 2 ∧ b = 2 ∧ c = 0) ∨ (a = 0 ∧ b = 0 ∧ c = 0) ∨ (a = 2 ∧ b = 0 ∧ c = 0))) ∨
  (v = true ∧ ((a = 2 ∧ b = 2 ∧ c = 2) ∨ (a = 2 ∧ b = 2 ∧ c = 0) ∨ (a = 0 ∧ b = 0 ∧ c = 0) ∨ (a = 2 ∧ b = 0 ∧ c = 0) ∨ (a = 22 ∧ b = 22 ∧ c = 0) ∨ (a = 22 ∧ b = 0 ∧ c = 0)))
theorem abcW {a b c : Int} {v : Bool} (h : abcB a b c v = true) : AbcW a b c v := by
  unfold abcB at h
  simp only [Bool.or_eq_true, Bool.and_eq_true, beq_iff_eq] at h
  unfold AbcW
  rcases h with (((⟨⟨h1, h2⟩, h3⟩ | ⟨⟨h1, h2⟩, h3⟩) | ⟨⟨h1, h2⟩, h3⟩) | ⟨⟨h1, h2⟩, h3⟩) | ⟨hv, ⟨⟨h1, h2⟩, h3⟩ | ⟨⟨h1, h2⟩, h3⟩⟩
  · subst h1 h2 h3
    cases v
    · exact .inl ⟨rfl, .inl ⟨rfl, rfl, rfl⟩⟩
    · exact .inr ⟨rfl, .inl ⟨rfl, rfl, rfl⟩⟩
  · subst h1 h2 h3
    cases v
    · exact .inl ⟨rfl, .inr (.inl ⟨rfl, rfl, rfl⟩)⟩
    · exact .inr ⟨rfl, .inr (.inl ⟨rfl, rfl, rfl⟩)⟩
  · subst h1 h2 h3
    cases v
    · exact .inl ⟨rfl, .inr (.inr (.inl ⟨rfl, rfl, rfl⟩))⟩
    · exact .inr ⟨rfl, .inr (.inr (.inl ⟨rfl, rfl, rfl⟩))⟩
  · subst h1 h2 h3
    cases v
    · exact .inl ⟨rfl, .inr (.inr (.inr ⟨rfl, rfl, rfl⟩))⟩
    · exact .inr ⟨rfl, .inr (.inr (.inr (.inl ⟨rfl, rfl, rfl⟩)))⟩
  · subst hv h1 h2 h3
    exact .inr ⟨rfl, .inr (.inr (.inr (.inr (.inl ⟨rfl, rfl, rfl⟩))))⟩
  · subst hv h1 h2 h3
    exact .inr ⟨rfl, .inr (.inr (.inr (.inr (.inr ⟨rfl, rfl, rfl⟩))))⟩
def XyW (x y : Int) (k : Bool) : Prop := (x = 0 ∧ y = 0 ∧ k = true) ∨ (x = 2 ∧ y = 2 ∧ k = true) ∨ (x = 22 ∧ y = 22 ∧ k = true) ∨ (x = 2 ∧ y = 0 ∧ k = true) ∨ (x = 2 ∧ y = 22 ∧ k = true) ∨ (x = 2 ∧ y = 2 ∧ k = false)
theorem xyW {x y : Int} {k : Bool} (h : ((k || (x == 2 && y == 2)) && xyB x y) = true) : XyW x y k := by
  unfold xyB at h
  simp only [Bool.or_eq_true, Bool.and_eq_true, beq_iff_eq] at h
  unfold XyW
  obtain ⟨h0, h⟩ := h
  rcases h with (((⟨h1, h2⟩ | ⟨h1, h2⟩) | ⟨h1, h2⟩) | ⟨h1, h2⟩) | ⟨h1, h2⟩
  · subst h1 h2
    cases k
    · exfalso; rcases h0 with e | ⟨e, f⟩
      · cases e
      · first | exact absurd e (by decide) | exact absurd f (by decide)
    · exact .inl ⟨rfl, rfl, rfl⟩
  · subst h1 h2
    cases k
    · exact .inr (.inr (.inr (.inr (.inr ⟨rfl, rfl, rfl⟩))))
    · exact .inr (.inl ⟨rfl, rfl, rfl⟩)
  · subst h1 h2
    cases k
    · exfalso; rcases h0 with e | ⟨e, f⟩
      · cases e
      · first | exact absurd e (by decide) | exact absurd f (by decide)
    · exact .inr (.inr (.inl ⟨rfl, rfl, rfl⟩))
  · subst h1 h2
    cases k
    · exfalso; rcases h0 with e | ⟨e, f⟩
      · cases e
      · first | exact absurd e (by decide) | exact absurd f (by decide)
    · exact .inr (.inr (.inr (.inl ⟨rfl, rfl, rfl⟩)))
  · subst h1 h2
    cases k
    · exfalso; rcases h0 with e | ⟨e, f⟩
      · cases e
      · first | exact absurd e (by decide) | exact absurd f (by decide)
    · exact .inr (.inr (.inr (.inr (.inl ⟨rfl, rfl, rfl⟩))))
theorem reads_xy (t : HS) (no : Int) : XyW (chkZ t no true) (chkZ t no false) (knownN no) := by
  refine xyW ?_
  rw [chkZ_P, chkZ_P]
  simp only [Bool.true_and, Bool.false_and]
  exact reads_bools _ _ _ _ _ _ _ _ _ _ _ _ _ _ _
set_option maxHeartbeats 20000000 in
theorem csrnoRises_walk (t : HS) (no : Int) (wr : Bool) (w : World) (ok : HOk t) (w1 : In63 no) :
    Calls Try.prog 6 #[hartV t, .int .i64 no, .bool wr] w fun e w' => e = .returned (.bool true) ∧ Below w.heap.size w w' := by
  have HW := Lib.hid fun w => wakes_any w
  have HU := Lib.hid fun w => check_is (t.put 33 0) (ok.put (by unfold In64; decide) (fun _ => by decide)) no wr w
  have HS := Lib.hid fun w => check_is (t.put 33 1) (ok.put (by unfold In64; decide) (fun _ => by decide)) no wr w
  have HM := Lib.hid fun w => check_is (t.put 33 3) (ok.put (by unfold In64; decide) (fun _ => by decide)) no wr w
  have HX := Lib.hid fun w => check_is t ok no true w
  have HY := Lib.hid fun w => check_is t ok no false w
  have HK := Lib.hid fun w => known_any no w
  have HABC := Lib.hid (abcW (rises_abc t no wr))
  have HXY := Lib.hid (reads_xy t no)
  generalize chkZ (t.put 33 0) no wr = a at *
  generalize chkZ (t.put 33 1) no wr = b at *
  generalize chkZ (t.put 33 3) no wr = c at *
  generalize chkZ t no true = x at *
  generalize chkZ t no false = y at *
  generalize knownN no = kn at *
  clear ok w1
  have hz45 := zero_hart
  go_enter Try.func6, Try.ntmps6
  go_upto_region 1 with (fail)
  have HB := Lib.hid ((Below.refl w.heap.size w).alloc (Nat.le_refl _) (.cells (varr 77 (hCell t)) 32))
  have HH0 := Lib.hid (HartB.new w t)
  have ge0 := Nat.le_refl w.heap.size
  obtain ⟨b0, hb0⟩ : ∃ b0, b0 = w.heap.size := ⟨_, rfl⟩
  rw [← hb0] at HH0
  rw [show (w.heap.size) = b0 from hb0.symm] at ge0
  have hge0 : w.heap.size ≤ b0 := by omega
  have hb0e := Lib.hid hb0
  rw [show w.heap.size = b0 from hb0.symm]
  clear hb0
  generalize w.alloc (.cells (varr 77 (hCell t)) 32) = w0 at *
  go_upto_region 2 with (first
    | (refine wpList_load_row rfl _ _ rfl b0 rfl 32 _ _ _ HH0.out Try.underlying32 rfl (size_hart.trans (by rw [varr_size])) ?_)
    | (refine wpList_store_row rfl 32 _ _ rfl w0.heap.size (varr 77 (hCell t)) rfl rfl 32 _ (heap_alloc_new w0 _) (size_hart.trans (by rw [varr_size])) (by rw [varr_size, varr_size]) (hrow_one _) ?_))
  have HC := Lib.hid (copy_hart w0 t hZ)
  have HH0n := Lib.hid (HH0.out.below HC.out.2)
  have lb0 := HH0.out.lt
  have HBn := Lib.hid (HB.out.trans (HC.out.2.mono HB.out.size))
  have gebu := HB.out.size
  generalize (w0.alloc (.cells (varr 77 (hCell hZ)) 32)).setRow w0.heap.size (varr 77 (hCell t)) = wau at *
  replace HC := Lib.hid HC.out.1
  replace HH0 := HH0n; clear HH0n
  replace HB := HBn; clear HBn
  generalize w0.heap.size = bu at *
  have f33 := HC.out.free 33
  have c33 := HC.out.p
  go_upto_region 3 with (fail)
  have HHu : Hid (HartB (wau.setCell ⟨bu, 33, none⟩ (.int .u8 0)) bu (t.put 33 0)) := Lib.hid (HC.out.putP 0)
  have HH0n : Hid (HartB (wau.setCell ⟨bu, 33, none⟩ (.int .u8 0)) b0 t) := Lib.hid (HH0.out.other (by show _ ≠ bu; omega))
  have HBn : Hid (Below w.heap.size w (wau.setCell ⟨bu, 33, none⟩ (.int .u8 0))) := Lib.hid (HB.out.setCell (p := ⟨bu, 33, none⟩) (by show w.heap.size ≤ bu; omega) _)
  generalize wau.setCell ⟨bu, 33, none⟩ (.int .u8 0) = wbu at *
  replace HH0 := HH0n; clear HH0n
  replace HB := HBn; clear HBn HC f33 c33
  go_upto_region 4 with (first
    | (refine wpList_load_row rfl _ _ rfl b0 rfl 32 _ _ _ HH0.out Try.underlying32 rfl (size_hart.trans (by rw [varr_size])) ?_)
    | (refine wpList_store_row rfl 32 _ _ rfl wbu.heap.size (varr 77 (hCell t)) rfl rfl 32 _ (heap_alloc_new wbu _) (size_hart.trans (by rw [varr_size])) (by rw [varr_size, varr_size]) (hrow_one _) ?_))
  have HC := Lib.hid (copy_hart wbu t hZ)
  have HH0n := Lib.hid (HH0.out.below HC.out.2)
  have lb0 := HH0.out.lt
  have HHun := Lib.hid (HHu.out.below HC.out.2)
  have lbu := HHu.out.lt
  have HBn := Lib.hid (HB.out.trans (HC.out.2.mono HB.out.size))
  have gebs := HB.out.size
  generalize (wbu.alloc (.cells (varr 77 (hCell hZ)) 32)).setRow wbu.heap.size (varr 77 (hCell t)) = was at *
  replace HC := Lib.hid HC.out.1
  replace HH0 := HH0n; clear HH0n
  replace HHu := HHun; clear HHun
  replace HB := HBn; clear HBn
  generalize wbu.heap.size = bs at *
  have f33 := HC.out.free 33
  have c33 := HC.out.p
  go_upto_region 5 with (fail)
  have HHs : Hid (HartB (was.setCell ⟨bs, 33, none⟩ (.int .u8 1)) bs (t.put 33 1)) := Lib.hid (HC.out.putP 1)
  have HH0n : Hid (HartB (was.setCell ⟨bs, 33, none⟩ (.int .u8 1)) b0 t) := Lib.hid (HH0.out.other (by show _ ≠ bs; omega))
  have HHun : Hid (HartB (was.setCell ⟨bs, 33, none⟩ (.int .u8 1)) bu (t.put 33 0)) := Lib.hid (HHu.out.other (by show _ ≠ bs; omega))
  have HBn : Hid (Below w.heap.size w (was.setCell ⟨bs, 33, none⟩ (.int .u8 1))) := Lib.hid (HB.out.setCell (p := ⟨bs, 33, none⟩) (by show w.heap.size ≤ bs; omega) _)
  generalize was.setCell ⟨bs, 33, none⟩ (.int .u8 1) = wbs at *
  replace HH0 := HH0n; clear HH0n
  replace HHu := HHun; clear HHun
  replace HB := HBn; clear HBn HC f33 c33
  go_upto_region 6 with (first
    | (refine wpList_load_row rfl _ _ rfl b0 rfl 32 _ _ _ HH0.out Try.underlying32 rfl (size_hart.trans (by rw [varr_size])) ?_)
    | (refine wpList_store_row rfl 32 _ _ rfl wbs.heap.size (varr 77 (hCell t)) rfl rfl 32 _ (heap_alloc_new wbs _) (size_hart.trans (by rw [varr_size])) (by rw [varr_size, varr_size]) (hrow_one _) ?_))
  have HC := Lib.hid (copy_hart wbs t hZ)
  have HH0n := Lib.hid (HH0.out.below HC.out.2)
  have lb0 := HH0.out.lt
  have HHun := Lib.hid (HHu.out.below HC.out.2)
  have lbu := HHu.out.lt
  have HHsn := Lib.hid (HHs.out.below HC.out.2)
  have lbs := HHs.out.lt
  have HBn := Lib.hid (HB.out.trans (HC.out.2.mono HB.out.size))
  have gebm := HB.out.size
  generalize (wbs.alloc (.cells (varr 77 (hCell hZ)) 32)).setRow wbs.heap.size (varr 77 (hCell t)) = wam at *
  replace HC := Lib.hid HC.out.1
  replace HH0 := HH0n; clear HH0n
  replace HHu := HHun; clear HHun
  replace HHs := HHsn; clear HHsn
  replace HB := HBn; clear HBn
  generalize wbs.heap.size = bm at *
  have f33 := HC.out.free 33
  have c33 := HC.out.p
  go_upto_region 7 with (fail)
  have HHm : Hid (HartB (wam.setCell ⟨bm, 33, none⟩ (.int .u8 3)) bm (t.put 33 3)) := Lib.hid (HC.out.putP 3)
  have HH0n : Hid (HartB (wam.setCell ⟨bm, 33, none⟩ (.int .u8 3)) b0 t) := Lib.hid (HH0.out.other (by show _ ≠ bm; omega))
  have HHun : Hid (HartB (wam.setCell ⟨bm, 33, none⟩ (.int .u8 3)) bu (t.put 33 0)) := Lib.hid (HHu.out.other (by show _ ≠ bm; omega))
  have HHsn : Hid (HartB (wam.setCell ⟨bm, 33, none⟩ (.int .u8 3)) bs (t.put 33 1)) := Lib.hid (HHs.out.other (by show _ ≠ bm; omega))
  have HBn : Hid (Below w.heap.size w (wam.setCell ⟨bm, 33, none⟩ (.int .u8 3))) := Lib.hid (HB.out.setCell (p := ⟨bm, 33, none⟩) (by show w.heap.size ≤ bm; omega) _)
  generalize wam.setCell ⟨bm, 33, none⟩ (.int .u8 3) = wbm at *
  replace HH0 := HH0n; clear HH0n
  replace HHu := HHun; clear HHun
  replace HHs := HHsn; clear HHsn
  replace HB := HBn; clear HBn HC f33 c33
  go_upto_region 8 with (first
    | (refine wpList_load_row rfl _ _ rfl bu rfl 32 _ _ _ HHu.out Try.underlying32 rfl (size_hart.trans (by rw [varr_size])) ?_)
    | ((with_reducible refine (HU.out _).mono ?_); rintro e wA ⟨rfl, hb⟩; replace HH0 := Lib.hid (HH0.out.below hb); replace HHs := Lib.hid (HHs.out.below hb); replace HHm := Lib.hid (HHm.out.below hb); replace HB := Lib.hid (HB.out.trans (hb.mono HB.out.size)); clear hb))
  clear HHu
  go_upto_region 9 with (first
    | (refine wpList_load_row rfl _ _ rfl bs rfl 32 _ _ _ HHs.out Try.underlying32 rfl (size_hart.trans (by rw [varr_size])) ?_)
    | ((with_reducible refine (HS.out _).mono ?_); rintro e wB ⟨rfl, hb⟩; replace HH0 := Lib.hid (HH0.out.below hb); replace HHm := Lib.hid (HHm.out.below hb); replace HB := Lib.hid (HB.out.trans (hb.mono HB.out.size)); clear hb))
  clear HHs
  go_upto_region 10 with (first
    | (refine wpList_load_row rfl _ _ rfl bm rfl 32 _ _ _ HHm.out Try.underlying32 rfl (size_hart.trans (by rw [varr_size])) ?_)
    | ((with_reducible refine (HM.out _).mono ?_); rintro e wC ⟨rfl, hb⟩; replace HH0 := Lib.hid (HH0.out.below hb); replace HB := Lib.hid (HB.out.trans (hb.mono HB.out.size)); clear hb))
  clear HHm HU HS HM
  have d34 := HH0.out.v
  have HABC' := HABC.out
  unfold AbcW at HABC'
  rcases HABC' with ⟨hv, h⟩ | ⟨hv, h⟩
  · rw [hv] at d34
    clear hv HABC
    rcases h with ⟨rfl, rfl, rfl⟩ | ⟨rfl, rfl, rfl⟩ | ⟨rfl, rfl, rfl⟩ | ⟨rfl, rfl, rfl⟩
    all_goals as_aux_lemma =>
      go_upto_region 14 with (fail)
      go_upto_region 15 with (first
        | (refine wpList_load_row rfl _ _ rfl b0 rfl 32 _ _ _ HH0.out Try.underlying32 rfl (size_hart.trans (by rw [varr_size])) ?_)
        | ((with_reducible refine (HX.out _).mono ?_); rintro e wX ⟨rfl, hb⟩; replace HH0 := Lib.hid (HH0.out.below hb); replace HB := Lib.hid (HB.out.trans (hb.mono HB.out.size)); clear hb))
      go_upto_region 16 with (first
        | (refine wpList_load_row rfl _ _ rfl b0 rfl 32 _ _ _ HH0.out Try.underlying32 rfl (size_hart.trans (by rw [varr_size])) ?_)
        | ((with_reducible refine (HY.out _).mono ?_); rintro e wY ⟨rfl, hb⟩; replace HB := Lib.hid (HB.out.trans (hb.mono HB.out.size)); clear hb))
      rcases HXY.out with ⟨rfl, rfl, hk⟩ | ⟨rfl, rfl, hk⟩ | ⟨rfl, rfl, hk⟩ | ⟨rfl, rfl, hk⟩ | ⟨rfl, rfl, hk⟩ | ⟨rfl, rfl, hk⟩
      all_goals as_aux_lemma =>
        rw [hk] at HK
        clear hk
        go_wp2_with (first
          | ((with_reducible refine (HK.out _).mono ?_); rintro e wK ⟨rfl, hb⟩; replace HB := Lib.hid (HB.out.trans (hb.mono HB.out.size)); clear hb)
          | ((with_reducible refine (HW.out _).mono ?_); rintro e wZ ⟨rfl, hb⟩; replace HB := Lib.hid (HB.out.trans (hb.mono HB.out.size)); clear hb))
        go_ret
        exact ⟨rfl, HB.out⟩
  · rw [hv] at d34
    clear hv HABC
    rcases h with ⟨rfl, rfl, rfl⟩ | ⟨rfl, rfl, rfl⟩ | ⟨rfl, rfl, rfl⟩ | ⟨rfl, rfl, rfl⟩ | ⟨rfl, rfl, rfl⟩ | ⟨rfl, rfl, rfl⟩
    all_goals as_aux_lemma =>
      go_upto_region 14 with (fail)
      go_upto_region 15 with (first
        | (refine wpList_load_row rfl _ _ rfl b0 rfl 32 _ _ _ HH0.out Try.underlying32 rfl (size_hart.trans (by rw [varr_size])) ?_)
        | ((with_reducible refine (HX.out _).mono ?_); rintro e wX ⟨rfl, hb⟩; replace HH0 := Lib.hid (HH0.out.below hb); replace HB := Lib.hid (HB.out.trans (hb.mono HB.out.size)); clear hb))
      go_upto_region 16 with (first
        | (refine wpList_load_row rfl _ _ rfl b0 rfl 32 _ _ _ HH0.out Try.underlying32 rfl (size_hart.trans (by rw [varr_size])) ?_)
        | ((with_reducible refine (HY.out _).mono ?_); rintro e wY ⟨rfl, hb⟩; replace HB := Lib.hid (HB.out.trans (hb.mono HB.out.size)); clear hb))
      rcases HXY.out with ⟨rfl, rfl, hk⟩ | ⟨rfl, rfl, hk⟩ | ⟨rfl, rfl, hk⟩ | ⟨rfl, rfl, hk⟩ | ⟨rfl, rfl, hk⟩ | ⟨rfl, rfl, hk⟩
      all_goals as_aux_lemma =>
        rw [hk] at HK
        clear hk
        go_wp2_with (first
          | ((with_reducible refine (HK.out _).mono ?_); rintro e wK ⟨rfl, hb⟩; replace HB := Lib.hid (HB.out.trans (hb.mono HB.out.size)); clear hb)
          | ((with_reducible refine (HW.out _).mono ?_); rintro e wZ ⟨rfl, hb⟩; replace HB := Lib.hid (HB.out.trans (hb.mono HB.out.size)); clear hb))
        go_ret
        exact ⟨rfl, HB.out⟩

end Go.Proofs.Ytcnalabhcalfnaa
