/- The walk of ArithLow: what is told of halves hangs on the halves alone; what Do tells is what the functions tell. -/
import Derived.Test.YtmbonfaeclbeaaaLawDoes
import Derived.Test.YtmbonfaeclbeaaaLawRests
import Derived.Test.YtmbonfaeclbeaaaArr
namespace Go.Proofs.Ytmbonfaeclbeaaa
open Go.RowKit
set_option linter.unusedVariables false

theorem divuw_bel (a b : Int) (ha : In64 a) (hb : In64 b) (w : World) :
    Calls Try.prog 21 #[.int .u64 a, .int .u64 b] w fun e w' => e = .returned (.int .u64 (dr (divuZ (lw a) (lw b)))) ∧ Below w.heap.size w w' :=
  (divuw_any a b ha hb w).mono fun e w' ⟨h, k, hk⟩ => ⟨h, by rw [hk]; exact below_drewN (Below.refl _ _) k⟩
theorem remuw_bel (a b : Int) (ha : In64 a) (hb : In64 b) (w : World) :
    Calls Try.prog 22 #[.int .u64 a, .int .u64 b] w fun e w' => e = .returned (.int .u64 (dr (remuZ (lw a) (lw b)))) ∧ Below w.heap.size w w' :=
  (remuw_any a b ha hb w).mono fun e w' ⟨h, k, hk⟩ => ⟨h, by rw [hk]; exact below_drewN (Below.refl _ _) k⟩

/-- The law's two tables. -/
def halvesA (a b : Int) : Array Value := #[.int .u64 (dr (a * b)), .int .u64 0, .int .u64 0, .int .u64 0, .int .u64 (dr (divZ (dr a) (dr b))), .int .u64 (dr (divuZ (lw a) (lw b))), .int .u64 (dr (remZ (dr a) (dr b))), .int .u64 (dr (remuZ (lw a) (lw b)))]
def wholeA (a b : Int) : Array Value := #[.int .u64 (wd (a * b)), .int .u64 (hiZ (sg a) (sg b)), .int .u64 (hiZ (sg a) b), .int .u64 (hiZ a b), .int .u64 (divZ a b), .int .u64 (divuZ a b), .int .u64 (remZ a b), .int .u64 (remuZ a b)]
def zero8 : Array Value := #[.int .u64 0, .int .u64 0, .int .u64 0, .int .u64 0, .int .u64 0, .int .u64 0, .int .u64 0, .int .u64 0]
theorem halvesA_def (a b : Int) : (#[.int .u64 (dr (a * b)), .int .u64 0, .int .u64 0, .int .u64 0, .int .u64 (dr (divZ (dr a) (dr b))), .int .u64 (dr (divuZ (lw a) (lw b))), .int .u64 (dr (remZ (dr a) (dr b))), .int .u64 (dr (remuZ (lw a) (lw b)))] : Array Value) = halvesA a b := rfl
theorem wholeA_def (a b : Int) : (#[.int .u64 (IntKind.u64.wrap (a * b)), .int .u64 (hiZ (sg a) (sg b)), .int .u64 (hiZ (sg a) b), .int .u64 (hiZ a b), .int .u64 (divZ a b), .int .u64 (divuZ a b), .int .u64 (remZ a b), .int .u64 (remuZ a b)] : Array Value) = wholeA a b := by rw [wrap_wd]; rfl
theorem zero8_def : (#[.int .u64 0, .int .u64 0, .int .u64 0, .int .u64 0, .int .u64 0, .int .u64 0, .int .u64 0, .int .u64 0] : Array Value) = zero8 := rfl
theorem halvesA_one (a b : Int) : (halvesA a b).all (·.oneCell') = true := by unfold halvesA; simp [Value.oneCell']
theorem wholeA_one (a b : Int) : (wholeA a b).all (·.oneCell') = true := by unfold wholeA; simp [Value.oneCell']
theorem size_8 : (Try.prog.info? 35).map (·.size) = some 8 := by kernel_rfl

/-- Block g holds that table, in a world that grew out of w. -/
def Tabled (w wr : World) (g : Nat) (cs : Array Value) : Prop := wr.heap[g]? = some (.cells cs 35 (0, 0))
theorem Tabled.below {w wr wn : World} {g : Nat} {cs : Array Value} (h : Tabled w wr g cs) (hb : Below wr.heap.size wr wn) : Tabled w wn g cs :=
  (hb.block g (Array.getElem?_eq_some_iff.1 h).1).trans h
theorem Tabled.cell {w wr : World} {g : Nat} {cs : Array Value} (h : Tabled w wr g cs) {k : Nat} {v : Value} (hk : cs[k]? = some v) : wr.cell? ⟨g, k, none⟩ = some v := by
  rw [cell_of_row wr g k cs 35 (0, 0) h]; exact hk

/-- The same half. -/
def SameHalf (a x : Int) : Prop := x % 4294967296 = a % 4294967296
theorem same_half (a c : Int) (ha : In64 a) : In64 (IntKind.u64.wrap (IntKind.u64.wrap (a * 4294967296) / 4294967296 + IntKind.u64.wrap (c * 4294967296))) ∧ SameHalf a (IntKind.u64.wrap (IntKind.u64.wrap (a * 4294967296) / 4294967296 + IntKind.u64.wrap (c * 4294967296))) := by
  refine ⟨by rw [wrap_wd]; exact wd_in _, ?_⟩
  unfold SameHalf
  rw [wrap_wd, wrap_wd, wrap_wd]
  unfold wd
  omega
theorem doH_half {a x b y : Int} (op : Int) (h : SameHalf a x) (k : SameHalf b y) : doH op x y = doH op a b := by
  unfold SameHalf at h k
  have e1 : dr (x * y) = dr (a * b) := dr_congr (mod32_mul h k)
  have e2 : dr x = dr a := dr_congr h
  have e3 : dr y = dr b := dr_congr k
  have e4 : lw x = lw a := h
  have e5 : lw y = lw b := k
  unfold doH
  rw [e1, e2, e3, e4, e5]
theorem drawn_sign (v : Int) : IntKind.u64.wrap (wrap64 (wrap32 (dr v))) = dr v := by
  rw [wrap_wd]
  unfold dr wd wrap64 wrap32
  split <;> omega

set_option maxHeartbeats 4000000 in
set_option maxRecDepth 100000 in
theorem low_walk (a b c d : Int) (ha : In64 a) (hb : In64 b) (w : World) :
    Calls Try.prog 10 #[.int .u64 a, .int .u64 b, .int .u64 c, .int .u64 d] w fun e w' => e = .returned (.bool true) ∧ Below w.heap.size w w' := by
  have X := same_half a c ha
  have Y := same_half b d hb
  obtain ⟨x, hx⟩ : ∃ x, IntKind.u64.wrap (IntKind.u64.wrap (a * 4294967296) / 4294967296 + IntKind.u64.wrap (c * 4294967296)) = x := ⟨_, rfl⟩
  obtain ⟨y, hy⟩ : ∃ y, IntKind.u64.wrap (IntKind.u64.wrap (b * 4294967296) / 4294967296 + IntKind.u64.wrap (d * 4294967296)) = y := ⟨_, rfl⟩
  rw [hx] at X
  rw [hy] at Y
  have HA := Lib.hid ha
  have HB0 := Lib.hid hb
  have IX := Lib.hid X.1
  have IY := Lib.hid Y.1
  have SX := Lib.hid X.2
  have SY := Lib.hid Y.2
  clear ha hb X Y
  go_enter Try.func10, Try.ntmps10
  go_wp2_with fail
  refine (arAwake_any _).mono ?_
  rintro e w1 ⟨rfl, HB⟩
  go_wp2_with fail
  refine (mulw_any _ _ _).mono ?_; rintro e w' ⟨rfl, rfl⟩
  go_wp2_with fail
  refine (divw_any _ _ HA.out HB0.out _).mono ?_; rintro e w' ⟨rfl, rfl⟩
  go_wp2_with fail
  refine (divuw_bel _ _ HA.out HB0.out _).mono ?_; rintro e w2 ⟨rfl, hb2⟩; replace HB := HB.trans (hb2.mono HB.size); clear hb2
  go_wp2_with fail
  refine (remw_any _ _ HA.out HB0.out _).mono ?_; rintro e w' ⟨rfl, rfl⟩
  go_wp2_with fail
  refine (remuw_bel _ _ HA.out HB0.out _).mono ?_; rintro e w3 ⟨rfl, hb2⟩; replace HB := HB.trans (hb2.mono HB.size); clear hb2
  go_wp2_with (first
    | (go_at_call 11; fail)
    | (refine wpList_store_row rfl _ _ _ rfl w3.heap.size _ rfl rfl 35 _ (heap_alloc_new w3 _) size_8 rfl (halvesA_one a b) ?_))
  simp only [halvesA_def, zero8_def]
  have T1 : Tabled w ((w3.alloc (.cells zero8 35)).setRow w3.heap.size (halvesA a b)) w3.heap.size (halvesA a b) := setRow_heap _ _ _ _ _ _ (heap_alloc_new w3 _)
  have HB2 : Below w.heap.size w ((w3.alloc (.cells zero8 35)).setRow w3.heap.size (halvesA a b)) := below_setRow (HB.alloc HB.size _) HB.size _
  generalize ((w3.alloc (.cells zero8 35)).setRow w3.heap.size (halvesA a b)) = wa at *
  refine (mulh_any _ _ HA.out HB0.out _).mono ?_; rintro e w' ⟨rfl, rfl⟩
  go_wp2_with (first
    | (go_at_call 12; refine (mulhsu_any _ _ HA.out HB0.out _).mono ?_; rintro e w' ⟨rfl, rfl⟩)
    | (go_at_call 13; refine (mulhu_any _ _ HA.out HB0.out _).mono ?_; rintro e w' ⟨rfl, rfl⟩)
    | (go_at_call 15; refine (div_any _ _ HA.out HB0.out _).mono ?_; rintro e w' ⟨rfl, rfl⟩)
    | (go_at_call 16; refine (divu_any _ _ HA.out HB0.out _).mono ?_; rintro e w' ⟨rfl, rfl⟩)
    | (go_at_call 14; refine (rem_any _ _ HA.out HB0.out _).mono ?_; rintro e w' ⟨rfl, rfl⟩)
    | (go_at_call 17; refine (remu_any _ _ HA.out HB0.out _).mono ?_; rintro e w' ⟨rfl, rfl⟩)
    | (simp only [wholeA_def]; refine wpList_store_row rfl _ _ _ rfl wa.heap.size _ rfl rfl 35 _ (heap_alloc_new wa _) size_8 rfl (wholeA_one a b) ?_))
  simp only [zero8_def]
  have T2 : Tabled w ((wa.alloc (.cells zero8 35)).setRow wa.heap.size (wholeA a b)) wa.heap.size (wholeA a b) := setRow_heap _ _ _ _ _ _ (heap_alloc_new wa _)
  have HB3 : Below w.heap.size w ((wa.alloc (.cells zero8 35)).setRow wa.heap.size (wholeA a b)) := below_setRow (HB2.alloc HB2.size _) HB2.size _
  have T1' : Tabled w ((wa.alloc (.cells zero8 35)).setRow wa.heap.size (wholeA a b)) w3.heap.size (halvesA a b) := T1.below (below_setRow ((Below.refl _ _).alloc (Nat.le_refl _) _) (Nat.le_refl _) _)
  have G1 : w3.heap.size < wa.heap.size := (Array.getElem?_eq_some_iff.1 T1).1
  have G2 : ((wa.alloc (.cells zero8 35)).setRow wa.heap.size (wholeA a b)).heap.size = wa.heap.size + 1 := laid_size _ _ _ _
  generalize ((wa.alloc (.cells zero8 35)).setRow wa.heap.size (wholeA a b)) = wb at *
  clear HB HB2 T1 G1 G2
  go_loopw [13] (fun i wr => ∃ k : Nat, k ≤ 8 ∧ i = .int .i64 k ∧ Tabled w wr w3.heap.size (halvesA a b) ∧ Tabled w wr wa.heap.size (wholeA a b) ∧ Below w.heap.size w wr) (fun i _ => (8 - intOf i).toNat)
  case atStart => exact ⟨0, by omega, rfl, T1', T2, HB3⟩
  case round =>
    clear T1' T2 HB3
    obtain ⟨k, hk, rfl, t1, t2, hbr⟩ := hrel
    have hks : k = 0 ∨ k = 1 ∨ k = 2 ∨ k = 3 ∨ k = 4 ∨ k = 5 ∨ k = 6 ∨ k = 7 ∨ k = 8 := by omega
    rcases hks with rfl | rfl | rfl | rfl | rfl | rfl | rfl | rfl | rfl
    · have d1 : doZ 0 true a b = (dr (a * b), 0) := rfl
      have d2 : doZ 0 true x y = (dr (a * b), 0) := (doH_half 0 SX.out SY.out).trans d1
      have d3 : doZ 0 false a b = (wd (a * b), 0) := rfl
      go_wp2_with fail
      refine (do_any _ _ _ _ HA.out HB0.out _).mono ?_
      rintro e w5 ⟨rfl, hb5⟩
      go_wp2_with fail
      refine (do_any _ _ _ _ IX.out IY.out _).mono ?_
      rintro e w6 ⟨rfl, hb6⟩
      have b6 := hbr.trans (hb5.mono hbr.size)
      have b7 := b6.trans (hb6.mono b6.size)
      have t1' := (t1.below hb5).below hb6
      have t2' := (t2.below hb5).below hb6
      have hcell := t1'.cell (k := 0) (v := .int .u64 (dr (a * b))) rfl
      have sgn := drawn_sign (a * b)
      go_wp2_with fail
      refine (do_any _ _ _ _ HA.out HB0.out _).mono ?_
      rintro e w7 ⟨rfl, hb7⟩
      have b8 := b7.trans (hb7.mono b7.size)
      have u1 := t1'.below hb7
      have u2 := t2'.below hb7
      have hcell2 := u2.cell (k := 0) (v := .int .u64 (wd (a * b))) rfl
      go_wp2
      exact ⟨⟨1, by omega, rfl, u1, u2, b8⟩, by simp [intOf]⟩
    · have d1 : doZ 1 true a b = (0, 1) := rfl
      have d2 : doZ 1 true x y = (0, 1) := (doH_half 1 SX.out SY.out).trans d1
      have d3 : doZ 1 false a b = (hiZ (sg a) (sg b), 0) := rfl
      go_wp2_with fail
      refine (do_any _ _ _ _ HA.out HB0.out _).mono ?_
      rintro e w5 ⟨rfl, hb5⟩
      go_wp2_with fail
      refine (do_any _ _ _ _ IX.out IY.out _).mono ?_
      rintro e w6 ⟨rfl, hb6⟩
      have b6 := hbr.trans (hb5.mono hbr.size)
      have b7 := b6.trans (hb6.mono b6.size)
      have t1' := (t1.below hb5).below hb6
      have t2' := (t2.below hb5).below hb6
      have hcell := t1'.cell (k := 1) (v := .int .u64 (0)) rfl
      go_wp2_with fail
      refine (do_any _ _ _ _ HA.out HB0.out _).mono ?_
      rintro e w7 ⟨rfl, hb7⟩
      have b8 := b7.trans (hb7.mono b7.size)
      have u1 := t1'.below hb7
      have u2 := t2'.below hb7
      have hcell2 := u2.cell (k := 1) (v := .int .u64 (hiZ (sg a) (sg b))) rfl
      go_wp2
      exact ⟨⟨2, by omega, rfl, u1, u2, b8⟩, by simp [intOf]⟩
    · have d1 : doZ 2 true a b = (0, 1) := rfl
      have d2 : doZ 2 true x y = (0, 1) := (doH_half 2 SX.out SY.out).trans d1
      have d3 : doZ 2 false a b = (hiZ (sg a) b, 0) := rfl
      go_wp2_with fail
      refine (do_any _ _ _ _ HA.out HB0.out _).mono ?_
      rintro e w5 ⟨rfl, hb5⟩
      go_wp2_with fail
      refine (do_any _ _ _ _ IX.out IY.out _).mono ?_
      rintro e w6 ⟨rfl, hb6⟩
      have b6 := hbr.trans (hb5.mono hbr.size)
      have b7 := b6.trans (hb6.mono b6.size)
      have t1' := (t1.below hb5).below hb6
      have t2' := (t2.below hb5).below hb6
      have hcell := t1'.cell (k := 2) (v := .int .u64 (0)) rfl
      go_wp2_with fail
      refine (do_any _ _ _ _ HA.out HB0.out _).mono ?_
      rintro e w7 ⟨rfl, hb7⟩
      have b8 := b7.trans (hb7.mono b7.size)
      have u1 := t1'.below hb7
      have u2 := t2'.below hb7
      have hcell2 := u2.cell (k := 2) (v := .int .u64 (hiZ (sg a) b)) rfl
      go_wp2
      exact ⟨⟨3, by omega, rfl, u1, u2, b8⟩, by simp [intOf]⟩
    · have d1 : doZ 3 true a b = (0, 1) := rfl
      have d2 : doZ 3 true x y = (0, 1) := (doH_half 3 SX.out SY.out).trans d1
      have d3 : doZ 3 false a b = (hiZ a b, 0) := rfl
      go_wp2_with fail
      refine (do_any _ _ _ _ HA.out HB0.out _).mono ?_
      rintro e w5 ⟨rfl, hb5⟩
      go_wp2_with fail
      refine (do_any _ _ _ _ IX.out IY.out _).mono ?_
      rintro e w6 ⟨rfl, hb6⟩
      have b6 := hbr.trans (hb5.mono hbr.size)
      have b7 := b6.trans (hb6.mono b6.size)
      have t1' := (t1.below hb5).below hb6
      have t2' := (t2.below hb5).below hb6
      have hcell := t1'.cell (k := 3) (v := .int .u64 (0)) rfl
      go_wp2_with fail
      refine (do_any _ _ _ _ HA.out HB0.out _).mono ?_
      rintro e w7 ⟨rfl, hb7⟩
      have b8 := b7.trans (hb7.mono b7.size)
      have u1 := t1'.below hb7
      have u2 := t2'.below hb7
      have hcell2 := u2.cell (k := 3) (v := .int .u64 (hiZ a b)) rfl
      go_wp2
      exact ⟨⟨4, by omega, rfl, u1, u2, b8⟩, by simp [intOf]⟩
    · have d1 : doZ 4 true a b = (dr (divZ (dr a) (dr b)), 0) := rfl
      have d2 : doZ 4 true x y = (dr (divZ (dr a) (dr b)), 0) := (doH_half 4 SX.out SY.out).trans d1
      have d3 : doZ 4 false a b = (divZ a b, 0) := rfl
      go_wp2_with fail
      refine (do_any _ _ _ _ HA.out HB0.out _).mono ?_
      rintro e w5 ⟨rfl, hb5⟩
      go_wp2_with fail
      refine (do_any _ _ _ _ IX.out IY.out _).mono ?_
      rintro e w6 ⟨rfl, hb6⟩
      have b6 := hbr.trans (hb5.mono hbr.size)
      have b7 := b6.trans (hb6.mono b6.size)
      have t1' := (t1.below hb5).below hb6
      have t2' := (t2.below hb5).below hb6
      have hcell := t1'.cell (k := 4) (v := .int .u64 (dr (divZ (dr a) (dr b)))) rfl
      have sgn := drawn_sign (divZ (dr a) (dr b))
      go_wp2_with fail
      refine (do_any _ _ _ _ HA.out HB0.out _).mono ?_
      rintro e w7 ⟨rfl, hb7⟩
      have b8 := b7.trans (hb7.mono b7.size)
      have u1 := t1'.below hb7
      have u2 := t2'.below hb7
      have hcell2 := u2.cell (k := 4) (v := .int .u64 (divZ a b)) rfl
      go_wp2
      exact ⟨⟨5, by omega, rfl, u1, u2, b8⟩, by simp [intOf]⟩
    · have d1 : doZ 5 true a b = (dr (divuZ (lw a) (lw b)), 0) := rfl
      have d2 : doZ 5 true x y = (dr (divuZ (lw a) (lw b)), 0) := (doH_half 5 SX.out SY.out).trans d1
      have d3 : doZ 5 false a b = (divuZ a b, 0) := rfl
      go_wp2_with fail
      refine (do_any _ _ _ _ HA.out HB0.out _).mono ?_
      rintro e w5 ⟨rfl, hb5⟩
      go_wp2_with fail
      refine (do_any _ _ _ _ IX.out IY.out _).mono ?_
      rintro e w6 ⟨rfl, hb6⟩
      have b6 := hbr.trans (hb5.mono hbr.size)
      have b7 := b6.trans (hb6.mono b6.size)
      have t1' := (t1.below hb5).below hb6
      have t2' := (t2.below hb5).below hb6
      have hcell := t1'.cell (k := 5) (v := .int .u64 (dr (divuZ (lw a) (lw b)))) rfl
      have sgn := drawn_sign (divuZ (lw a) (lw b))
      go_wp2_with fail
      refine (do_any _ _ _ _ HA.out HB0.out _).mono ?_
      rintro e w7 ⟨rfl, hb7⟩
      have b8 := b7.trans (hb7.mono b7.size)
      have u1 := t1'.below hb7
      have u2 := t2'.below hb7
      have hcell2 := u2.cell (k := 5) (v := .int .u64 (divuZ a b)) rfl
      go_wp2
      exact ⟨⟨6, by omega, rfl, u1, u2, b8⟩, by simp [intOf]⟩
    · have d1 : doZ 6 true a b = (dr (remZ (dr a) (dr b)), 0) := rfl
      have d2 : doZ 6 true x y = (dr (remZ (dr a) (dr b)), 0) := (doH_half 6 SX.out SY.out).trans d1
      have d3 : doZ 6 false a b = (remZ a b, 0) := rfl
      go_wp2_with fail
      refine (do_any _ _ _ _ HA.out HB0.out _).mono ?_
      rintro e w5 ⟨rfl, hb5⟩
      go_wp2_with fail
      refine (do_any _ _ _ _ IX.out IY.out _).mono ?_
      rintro e w6 ⟨rfl, hb6⟩
      have b6 := hbr.trans (hb5.mono hbr.size)
      have b7 := b6.trans (hb6.mono b6.size)
      have t1' := (t1.below hb5).below hb6
      have t2' := (t2.below hb5).below hb6
      have hcell := t1'.cell (k := 6) (v := .int .u64 (dr (remZ (dr a) (dr b)))) rfl
      have sgn := drawn_sign (remZ (dr a) (dr b))
      go_wp2_with fail
      refine (do_any _ _ _ _ HA.out HB0.out _).mono ?_
      rintro e w7 ⟨rfl, hb7⟩
      have b8 := b7.trans (hb7.mono b7.size)
      have u1 := t1'.below hb7
      have u2 := t2'.below hb7
      have hcell2 := u2.cell (k := 6) (v := .int .u64 (remZ a b)) rfl
      go_wp2
      exact ⟨⟨7, by omega, rfl, u1, u2, b8⟩, by simp [intOf]⟩
    · have d1 : doZ 7 true a b = (dr (remuZ (lw a) (lw b)), 0) := rfl
      have d2 : doZ 7 true x y = (dr (remuZ (lw a) (lw b)), 0) := (doH_half 7 SX.out SY.out).trans d1
      have d3 : doZ 7 false a b = (remuZ a b, 0) := rfl
      go_wp2_with fail
      refine (do_any _ _ _ _ HA.out HB0.out _).mono ?_
      rintro e w5 ⟨rfl, hb5⟩
      go_wp2_with fail
      refine (do_any _ _ _ _ IX.out IY.out _).mono ?_
      rintro e w6 ⟨rfl, hb6⟩
      have b6 := hbr.trans (hb5.mono hbr.size)
      have b7 := b6.trans (hb6.mono b6.size)
      have t1' := (t1.below hb5).below hb6
      have t2' := (t2.below hb5).below hb6
      have hcell := t1'.cell (k := 7) (v := .int .u64 (dr (remuZ (lw a) (lw b)))) rfl
      have sgn := drawn_sign (remuZ (lw a) (lw b))
      go_wp2_with fail
      refine (do_any _ _ _ _ HA.out HB0.out _).mono ?_
      rintro e w7 ⟨rfl, hb7⟩
      have b8 := b7.trans (hb7.mono b7.size)
      have u1 := t1'.below hb7
      have u2 := t2'.below hb7
      have hcell2 := u2.cell (k := 7) (v := .int .u64 (remuZ a b)) rfl
      go_wp2
      exact ⟨⟨8, by omega, rfl, u1, u2, b8⟩, by simp [intOf]⟩
    · go_wp2
      go_ret
      exact ⟨rfl, hbr⟩

theorem arithLow_walk (a b c d : Int) (w0 : (Lit.int .u64 a).wf = true) (w1 : (Lit.int .u64 b).wf = true) (w2 : (Lit.int .u64 c).wf = true) (w3 : (Lit.int .u64 d).wf = true) (w : World) :
    Calls Try.prog 10 #[.int .u64 a, .int .u64 b, .int .u64 c, .int .u64 d] w fun e w' => e = .returned (.bool true) ∧ Below w.heap.size w w' :=
  low_walk a b c d (of_wf w0) (of_wf w1) w

end Go.Proofs.Ytmbonfaeclbeaaa
