/- The contracts of the document's own answers for layer 2. -/
import Derived.Test.YtmbonfaeclbeaaaAr
import Derived.Test.YtmbonfaeclbeaaaArith
import Derived.Test.YtmbonfaeclbeaaaRefC
namespace Go.Proofs.Ytmbonfaeclbeaaa
open Go.RowKit
set_option linter.unusedVariables false

theorem ret_two {k : IntKind} {a b : Int} {v u : Value} (h : a = b) (h2 : v = u) : Ending.returned (.tuple #[.int k a, v]) = .returned (.tuple #[.int k b, u]) := by rw [h, h2]
theorem int_eq {k : IntKind} {a b : Int} (h : a = b) : Value.int k a = .int k b := by rw [h]

theorem size_any (a : Int) (ha : In64 a) (w : World) :
    Calls Try.prog 48 #[.int .u64 a] w fun e w' => e = .returned (.tuple #[.int .u64 (sz a), .bool (decide (9223372036854775808 ≤ a))]) ∧ w = w' := by
  by_cases c : 9223372036854775808 ≤ a
  · rw [decide_eq_true c]
    have E : Hid (wd (0 - a) = sz a) := Lib.hid (sz_neg ha c).2.1
    go_enter Try.func48, Try.ntmps48
    go_wp2
    go_ret2
    exact ⟨ret_two (by rw [← E.out, wrap_wd, Int.zero_sub]) rfl, rfl⟩
  · rw [decide_eq_false c]
    have E : Hid (sz a = a) := Lib.hid (sz_pos ha c).2
    go_enter Try.func48, Try.ntmps48
    go_wp2
    go_ret2
    exact ⟨ret_two E.out.symm rfl, rfl⟩

theorem turned_any (h l : Int) (hh : In64 h) (hl : In64 l) (w : World) :
    Calls Try.prog 53 #[.int .u64 h, .int .u64 l] w fun e w' => e = .returned (.tuple #[.int .u64 (if l = 0 then wd (18446744073709551615 - h + 1) else 18446744073709551615 - h), .int .u64 (wd (-l))]) ∧ w = w' := by
  have h1 := hh.1
  have h2 := hh.2
  have l1 := hl.1
  have l2 := hl.2
  have e1 : Hid (∀ x, IntKind.u64.wrap x = wd x) := Lib.hid wrap_wd
  by_cases c : l = 0
  · subst c
    rw [if_pos rfl]
    go_enter Try.func53, Try.ntmps53
    go_wp2
    go_ret2
    exact ⟨by rw [e1.out]; rfl, rfl⟩
  · rw [if_neg c]
    have c2 : (18446744073709551615 - l == 18446744073709551615) = false := by rw [beq_eq_false_iff_ne]; omega
    have hw : Hid (wd (-l) = 18446744073709551615 - l + 1) := by refine Lib.hid ?_; unfold wd; omega
    have hlt : 18446744073709551615 - l + 1 < 18446744073709551616 := by omega
    clear c
    go_enter Try.func53, Try.ntmps53
    go_wp2
    go_ret2
    exact ⟨ret_two rfl (int_eq hw.out.symm), rfl⟩

theorem shr_step (b : BitVec 64) (k : Nat) (a : Int) : a * U (b >>> k) = 2 * (a * U (b >>> (k + 1))) + (if b.getLsbD k = true then a else 0) := by
  rw [← join_step b k, Int.mul_add]
  split <;> simp <;> rw [Int.mul_left_comm]
theorem shr_le (b : BitVec 64) (k : Nat) {a : Int} (ha : In64 a) : 0 ≤ a * U (b >>> k) ∧ a * U (b >>> k) ≤ 340282366920938463426481119284349108225 := by
  have h1 := U_in (b >>> k)
  unfold In64 at ha h1
  exact ⟨Int.mul_nonneg ha.1 h1.1, Int.mul_le_mul (a := a) (c := 18446744073709551615) (d := 18446744073709551615) (by omega) (by omega) h1.1 (by omega)⟩

/-- What stands at the head of the product's loop. -/
def AtBit (a : Int) (b : BitVec 64) (h l i : Value) : Prop :=
  ∃ (k : Nat) (x y : Int), k ≤ 64 ∧ i = .int .i64 ((k : Int) - 1) ∧ h = .int .u64 x ∧ l = .int .u64 y ∧ In64 x ∧ In64 y ∧ a * U (b >>> k) = x * 18446744073709551616 + y

set_option maxHeartbeats 1000000 in
set_option maxRecDepth 100000 in
theorem product_any (a b : Int) (ha : In64 a) (hb : In64 b) (w : World) :
    Calls Try.prog 52 #[.int .u64 a, .int .u64 b] w fun e w' => e = .returned (.tuple #[.int .u64 (hiZ a b), .int .u64 (wd (a * b))]) ∧ Below w.heap.size w w' := by
  have HA := Lib.hid ha
  have ha1 := ha.1
  have ha2 := ha.2
  clear ha
  go_enter Try.func52, Try.ntmps52
  go_wp2_with fail
  refine (split_any b hb _).mono ?_
  rintro e w1 ⟨rfl, hb1⟩
  go_wp2_with (refine wpList_store_row rfl _ _ _ rfl w1.heap.size _ rfl rfl 52 _ (heap_alloc_new w1 _) ?_ (by rw [barr_size]; rfl) (barr_one _ _) ?_; · exact size48.trans (by rw [barr_size]))
  simp only [zero64]
  obtain ⟨A1, A2, A3⟩ := one_array hb1 (V b).getLsbD
  generalize ((w1.alloc (.cells (barr 64 fun _ => false) 52)).setRow w1.heap.size (barr 64 (V b).getLsbD)) = wa at *
  have hne := hb1.size
  clear hb1 A3
  go_loop [7, 8, 9] (AtBit a (V b)) (fun _ _ i => (intOf i + 1).toNat)
  case atStart => exact ⟨64, 0, 0, Nat.le_refl _, rfl, rfl, rfl, by unfold In64; omega, by unfold In64; omega, by rw [BitVec.ushiftRight_eq_zero (Nat.le_refl _)]; show a * 0 = _; omega⟩
  case round =>
    obtain ⟨k, x, y, hk, rfl, rfl, rfl, hx, hy, he⟩ := hrel
    cases k with
    | succ m =>
      have hcell := A1.cell (show m < 64 by omega)
      have J := shr_step (V b) m a
      have L := shr_le (V b) m HA.out
      rw [he] at J
      rw [show ((m + 1 : Nat) : Int) - 1 = (m : Int) by omega]
      have HJ := Lib.hid J
      have HL := Lib.hid L
      have HX := Lib.hid hx
      have HY := Lib.hid hy
      clear J L he hx hy
      cases hfm : (V b).getLsbD m
      · rw [hfm] at hcell HJ
        have J := HJ.out
        simp only [Bool.false_eq_true, if_false] at J
        clear HJ
        have HJ := Lib.hid J
        clear J
        clear hfm
        go_wp2
        all_goals
          go_round
          case rel =>
            have J := HJ.out; have L := HL.out; have X := HX.out; have Y := HY.out
            rw [J] at L
            unfold In64 at X Y
            refine ⟨m, _, _, by omega, rfl, rfl, rfl, ?_, ?_, ?_⟩
            all_goals (try unfold In64); (try rw [J]); (try simp only [IntKind.wrap_u64]); omega
          case measure => simp [intOf]
      · rw [hfm] at hcell HJ
        have J := HJ.out
        simp only [if_true] at J
        clear HJ
        have HJ := Lib.hid J
        clear J
        clear hfm
        go_wp2
        all_goals
          go_round
          case rel =>
            have J := HJ.out; have L := HL.out; have X := HX.out; have Y := HY.out
            rw [J] at L
            unfold In64 at X Y
            refine ⟨m, _, _, by omega, rfl, rfl, rfl, ?_, ?_, ?_⟩
            all_goals (try unfold In64); (try rw [J]); (try simp only [IntKind.wrap_u64] at *); omega
          case measure => simp [intOf]
    | zero =>
      have hu : U (V b >>> 0) = b := by rw [BitVec.ushiftRight_zero, U_V hb]
      have HE := Lib.hid (prod_split he hy hx)
      rw [hu] at HE
      clear he hu hx hy
      go_wp2
      go_ret2
      exact ⟨by rw [HE.out.1, HE.out.2]; rfl, A2⟩

/-- What 'high' reads a factor as: its number, by whether it is read signed. -/
def asZ (a : Int) (s : Bool) : Int := if s = true then sg a else a
def szZ (a : Int) (s : Bool) : Int := if s = true then sz a else a
def ngZ (a : Int) (s : Bool) : Bool := s && decide (9223372036854775808 ≤ a)
theorem asz {a : Int} (ha : In64 a) (s : Bool) : In64 (szZ a s) ∧ (ngZ a s = true → asZ a s = - szZ a s) ∧ (ngZ a s = false → asZ a s = szZ a s) := by
  unfold szZ asZ ngZ
  cases s
  · simp; exact ha
  · refine ⟨by simpa using sz_in ha, ?_, ?_⟩
    · intro h
      have := (sz_neg ha (by simpa using h)).1
      simp; omega
    · intro h
      have := (sz_pos ha (by simpa using h)).1
      simp; omega

/-- The upper half of the product, out of the sizes' product and the signs. -/
theorem high_reckon {a b : Int} (ha : In64 a) (hb : In64 b) (s t : Bool) :
    (ngZ a s = ngZ b t → hiZ (szZ a s) (szZ b t) = hiZ (asZ a s) (asZ b t)) ∧
    (ngZ a s ≠ ngZ b t → (if wd (szZ a s * szZ b t) = 0 then wd (18446744073709551615 - hiZ (szZ a s) (szZ b t) + 1) else 18446744073709551615 - hiZ (szZ a s) (szZ b t)) = hiZ (asZ a s) (asZ b t)) := by
  obtain ⟨ia, an, ap⟩ := asz ha s
  obtain ⟨ib, bn, bp⟩ := asz hb t
  generalize szZ a s = x at *
  generalize szZ b t = y at *
  constructor
  · intro h
    cases e : ngZ a s
    · rw [ap e, bp (by rw [← h, e])]
    · rw [an e, bn (by rw [← h, e])]; unfold hiZ; rw [Int.neg_mul_neg]
  · intro h
    have hp : x * y = hiZ x y * 18446744073709551616 + wd (x * y) := by
      have := (hi_nat ia ib).1
      rw [this]; unfold wd; omega
    have T := turned_hi hp (wd_in _) (wd_in _)
    have e2 : hiZ (asZ a s) (asZ b t) = wd (-(x * y) / 18446744073709551616) := by
      unfold hiZ
      cases e : ngZ a s
      · have f : ngZ b t = true := by
          cases f : ngZ b t with
          | true => rfl
          | false => exact absurd (e.trans f.symm) h
        rw [ap e, bn f, Int.mul_neg]
      · have f : ngZ b t = false := by
          cases f : ngZ b t with
          | false => rfl
          | true => exact absurd (e.trans f.symm) h
        rw [an e, bp f, Int.neg_mul]
    rw [e2]
    split
    · exact T.1 (by assumption)
    · exact T.2 (by assumption)

/-- The upper half where the signs differ, as 'turned' answers it. -/
def turnHi (h l : Int) : Int := if l = 0 then wd (18446744073709551615 - h + 1) else 18446744073709551615 - h
theorem turn_any (h l : Int) (hh : In64 h) (hl : In64 l) (w : World) :
    Calls Try.prog 53 #[.int .u64 h, .int .u64 l] w fun e w' => e = .returned (.tuple #[.int .u64 (turnHi h l), .int .u64 (wd (-l))]) ∧ w = w' := turned_any h l hh hl w

set_option maxHeartbeats 2000000 in
theorem high_walk (a b : Int) (s t p q : Bool) (hp : decide (9223372036854775808 ≤ a) = p) (hq : decide (9223372036854775808 ≤ b) = q) (ha : In64 a) (hb : In64 b) (w : World) :
    Calls Try.prog 44 #[.int .u64 a, .int .u64 b, .bool s, .bool t] w fun e w' => e = .returned (.int .u64 (hiZ (asZ a s) (asZ b t))) ∧ Below w.heap.size w w' := by
  obtain ⟨R1, R2⟩ := high_reckon ha hb s t
  have R2 : ngZ a s ≠ ngZ b t → turnHi (hiZ (szZ a s) (szZ b t)) (wd (szZ a s * szZ b t)) = hiZ (asZ a s) (asZ b t) := R2
  generalize hiZ (asZ a s) (asZ b t) = z at *
  have IA := Lib.hid ha
  have IB := Lib.hid hb
  have SA := Lib.hid (sz_in ha)
  have SB := Lib.hid (sz_in hb)
  have HI : Hid (∀ x y, In64 (hiZ x y)) := Lib.hid fun x y => wd_in _
  clear ha hb
  cases s <;> cases t <;> cases p <;> cases q
  all_goals
    simp only [ngZ, szZ, hp, hq, Bool.true_and, Bool.false_and, Bool.false_eq_true, if_true, if_false, ne_eq, not_true_eq_false, not_false_eq_true, reduceCtorEq, forall_const, false_implies, true_implies, Bool.true_eq_false] at R1 R2
    have H1 := Lib.hid R1
    have H2 := Lib.hid R2
    clear R1 R2
    go_enter Try.func44, Try.ntmps44
    go_wp2_with (first
      | (go_at_call 48; refine (size_any _ (by first | exact IA.out | exact IB.out) _).mono ?_; rintro e w' ⟨rfl, rfl⟩)
      | (go_at_call 52; refine (product_any _ _ (by first | exact IA.out | exact SA.out) (by first | exact IB.out | exact SB.out) _).mono ?_; rintro e w1 ⟨rfl, hb1⟩)
      | (go_at_call 53; refine (turn_any _ _ (HI.out _ _) (wd_in _) _).mono ?_; rintro e w' ⟨rfl, rfl⟩))
    go_ret
    first
      | exact ⟨ret_int H1.out, hb1⟩
      | exact ⟨ret_int H2.out, hb1⟩

theorem high_any (a b : Int) (s t : Bool) (ha : In64 a) (hb : In64 b) (w : World) :
    Calls Try.prog 44 #[.int .u64 a, .int .u64 b, .bool s, .bool t] w fun e w' => e = .returned (.int .u64 (hiZ (asZ a s) (asZ b t))) ∧ Below w.heap.size w w' := high_walk a b s t _ _ rfl rfl ha hb w

theorem refMulh_any (a b : Int) (ha : In64 a) (hb : In64 b) (w : World) :
    Calls Try.prog 25 #[.int .u64 a, .int .u64 b] w fun e w' => e = .returned (.int .u64 (hiZ (sg a) (sg b))) ∧ Below w.heap.size w w' := by
  go_enter Try.func25, Try.ntmps25
  go_wp2_with (go_at_call 44; refine (high_any _ _ _ _ ha hb _).mono ?_; rintro e w1 ⟨rfl, hb1⟩)
  go_ret
  exact ⟨rfl, hb1⟩

theorem refMulhsu_any (a b : Int) (ha : In64 a) (hb : In64 b) (w : World) :
    Calls Try.prog 26 #[.int .u64 a, .int .u64 b] w fun e w' => e = .returned (.int .u64 (hiZ (sg a) b)) ∧ Below w.heap.size w w' := by
  go_enter Try.func26, Try.ntmps26
  go_wp2_with (go_at_call 44; refine (high_any _ _ _ _ ha hb _).mono ?_; rintro e w1 ⟨rfl, hb1⟩)
  go_ret
  exact ⟨rfl, hb1⟩

theorem refMulhu_any (a b : Int) (ha : In64 a) (hb : In64 b) (w : World) :
    Calls Try.prog 27 #[.int .u64 a, .int .u64 b] w fun e w' => e = .returned (.int .u64 (hiZ a b)) ∧ Below w.heap.size w w' := by
  go_enter Try.func27, Try.ntmps27
  go_wp2_with (go_at_call 44; refine (high_any _ _ _ _ ha hb _).mono ?_; rintro e w1 ⟨rfl, hb1⟩)
  go_ret
  exact ⟨rfl, hb1⟩

theorem refMul_any (a b : Int) (ha : In64 a) (hb : In64 b) (w : World) :
    Calls Try.prog 46 #[.int .u64 a, .int .u64 b] w fun e w' => e = .returned (.int .u64 (wd (a * b))) ∧ Below w.heap.size w w' := by
  go_enter Try.func46, Try.ntmps46
  go_wp2_with (go_at_call 52; refine (product_any _ _ ha hb _).mono ?_; rintro e w1 ⟨rfl, hb1⟩)
  go_ret
  exact ⟨rfl, hb1⟩

theorem refDiv_any (a b : Int) (ha : In64 a) (hb : In64 b) (w : World) :
    Calls Try.prog 29 #[.int .u64 a, .int .u64 b] w fun e w' => e = .returned (.int .u64 (divZ a b)) ∧ w = w' := by
  by_cases c : b = 0
  · subst c
    go_enter Try.func29, Try.ntmps29
    go_wp2
    go_ret
    exact ⟨rfl, rfl⟩
  have hd : (b == 0) = false := by simpa using c
  have ia := sz_in ha
  have ib := sz_in hb
  have hz : ¬ sz b = 0 := by
    intro z; apply c
    unfold In64 at hb; unfold sz at z; split at z <;> omega
  have h1 := ia.1
  have h2 := ib.1
  have q1 := Int.ediv_nonneg h1 h2
  have q2 := Int.ediv_le_self (sz b) h1
  have Q : Hid (IntKind.u64.wrap ((sz a).tdiv (sz b)) = sz a / sz b) := by
    refine Lib.hid ?_
    have := ia.2
    rw [wrap_wd, Int.tdiv_eq_ediv_of_nonneg h1, wd_of ⟨q1, by omega⟩]
  clear q2
  have IA := Lib.hid ha
  have IB := Lib.hid hb
  by_cases ca : 9223372036854775808 ≤ a <;> by_cases cb : 9223372036854775808 ≤ b
  · have D := Lib.hid (div_same c ha hb ⟨fun _ => cb, fun _ => ca⟩)
    have da := decide_eq_true ca
    have db := decide_eq_true cb
    clear c ia ib ha hb
    go_enter Try.func29, Try.ntmps29
    go_wp2_with (go_at_call 48; refine (size_any _ (by first | exact IA.out | exact IB.out) _).mono ?_; rintro e w' ⟨rfl, rfl⟩)
    go_ret
    exact ⟨ret_int (by rw [← D.out, ← Q.out]), rfl⟩
  · have D := Lib.hid (div_apart c ha hb (fun k => cb (k.1 ca)))
    have da := decide_eq_true ca
    have db := decide_eq_false cb
    clear c ia ib ha hb
    go_enter Try.func29, Try.ntmps29
    go_wp2_with (go_at_call 48; refine (size_any _ (by first | exact IA.out | exact IB.out) _).mono ?_; rintro e w' ⟨rfl, rfl⟩)
    go_ret
    exact ⟨ret_int (by rw [wrap_wd, ← D.out, ← Q.out, Int.zero_sub]), rfl⟩
  · have D := Lib.hid (div_apart c ha hb (fun k => ca (k.2 cb)))
    have da := decide_eq_false ca
    have db := decide_eq_true cb
    clear c ia ib ha hb
    go_enter Try.func29, Try.ntmps29
    go_wp2_with (go_at_call 48; refine (size_any _ (by first | exact IA.out | exact IB.out) _).mono ?_; rintro e w' ⟨rfl, rfl⟩)
    go_ret
    exact ⟨ret_int (by rw [wrap_wd, ← D.out, ← Q.out, Int.zero_sub]), rfl⟩
  · have D := Lib.hid (div_same c ha hb ⟨fun k => absurd k ca, fun k => absurd k cb⟩)
    have da := decide_eq_false ca
    have db := decide_eq_false cb
    clear c ia ib ha hb
    go_enter Try.func29, Try.ntmps29
    go_wp2_with (go_at_call 48; refine (size_any _ (by first | exact IA.out | exact IB.out) _).mono ?_; rintro e w' ⟨rfl, rfl⟩)
    go_ret
    exact ⟨ret_int (by rw [← D.out, ← Q.out]), rfl⟩

theorem refRem_any (a b : Int) (ha : In64 a) (hb : In64 b) (w : World) :
    Calls Try.prog 31 #[.int .u64 a, .int .u64 b] w fun e w' => e = .returned (.int .u64 (remZ a b)) ∧ w = w' := by
  by_cases c : b = 0
  · subst c
    go_enter Try.func31, Try.ntmps31
    go_wp2
    go_ret
    exact ⟨rfl, rfl⟩
  have hd : (b == 0) = false := by simpa using c
  have ia := sz_in ha
  have ib := sz_in hb
  have hz : ¬ sz b = 0 := by
    intro z; apply c
    unfold In64 at hb; unfold sz at z; split at z <;> omega
  have h1 := ia.1
  have h2 := ib.1
  have q1 := Int.emod_nonneg (sz a) hz
  have IA := Lib.hid ha
  have IB := Lib.hid hb
  by_cases ca : 9223372036854775808 ≤ a
  · have D := Lib.hid (rem_neg c ha hb ca)
    have da := decide_eq_true ca
    clear c ia ib ha hb
    go_enter Try.func31, Try.ntmps31
    go_wp2_with (go_at_call 48; refine (size_any _ (by first | exact IA.out | exact IB.out) _).mono ?_; rintro e w' ⟨rfl, rfl⟩)
    go_ret
    exact ⟨ret_int (by rw [wrap_wd, ← D.out]; simp), rfl⟩
  · have D := Lib.hid (rem_pos c ha hb ca)
    have da := decide_eq_false ca
    clear c ia ib ha hb
    go_enter Try.func31, Try.ntmps31
    go_wp2_with (go_at_call 48; refine (size_any _ (by first | exact IA.out | exact IB.out) _).mono ?_; rintro e w' ⟨rfl, rfl⟩)
    go_ret
    exact ⟨ret_int D.out, rfl⟩

theorem refDivu_any (a b : Int) (ha : In64 a) (hb : In64 b) (w : World) :
    Calls Try.prog 30 #[.int .u64 a, .int .u64 b] w fun e w' => e = .returned (.int .u64 (divuZ a b)) ∧ w = w' := by
  by_cases c : b = 0
  · subst c
    go_enter Try.func30, Try.ntmps30
    go_wp2
    go_ret
    exact ⟨rfl, rfl⟩
  · have hd : (b == 0) = false := by simpa using c
    have h1 := ha.1
    have h2 := hb.1
    have E : Hid (IntKind.u64.wrap (a.tdiv b) = divuZ a b) := by
      have i := divuZ_in ha hb
      unfold divuZ at *; rw [if_neg c] at *
      rw [wrap_wd, Int.tdiv_eq_ediv_of_nonneg h1, wd_of i]; rfl
    go_enter Try.func30, Try.ntmps30
    go_wp2
    go_ret
    exact ⟨ret_int E.out, rfl⟩

theorem refRemu_any (a b : Int) (ha : In64 a) (hb : In64 b) (w : World) :
    Calls Try.prog 32 #[.int .u64 a, .int .u64 b] w fun e w' => e = .returned (.int .u64 (remuZ a b)) ∧ w = w' := by
  by_cases c : b = 0
  · subst c
    go_enter Try.func32, Try.ntmps32
    go_wp2
    go_ret
    exact ⟨rfl, rfl⟩
  · have hd : (b == 0) = false := by simpa using c
    have h1 := ha.1
    have h2 := hb.1
    have E : Hid (a % b = remuZ a b) := by unfold remuZ; rw [if_neg c]; rfl
    go_enter Try.func32, Try.ntmps32
    go_wp2
    go_ret
    exact ⟨ret_int E.out, rfl⟩

theorem refLow_any (a : Int) (ha : In64 a) (w : World) :
    Calls Try.prog 47 #[.int .u64 a] w fun e w' => e = .returned (.int .u64 (lw a)) ∧ w = w' := by
  have h1 := ha.1
  go_enter Try.func47, Try.ntmps47
  go_wp2
  go_ret
  exact ⟨rfl, rfl⟩

theorem refDrawn_any (a : Int) (ha : In64 a) (w : World) :
    Calls Try.prog 45 #[.int .u64 a] w fun e w' => e = .returned (.int .u64 (dr a)) ∧ Below w.heap.size w w' := by
  have E := Lib.hid (sext32 ha)
  go_enter Try.func45, Try.ntmps45
  go_wp2_with (go_at_call 54; refine (refSext_any _ _ ha _).mono ?_; rintro e w' ⟨rfl, hb1⟩)
  go_ret
  exact ⟨ret_int E.out, hb1⟩

theorem mulw_eq (a b : Int) : dr (wd (lw a * lw b)) = dr (a * b) := by
  rw [dr_wd]; apply dr_congr; unfold lw; rw [Int.mul_emod a b]

set_option maxHeartbeats 400000 in
theorem refMulw_any (a b : Int) (ha : In64 a) (hb : In64 b) (w : World) :
    Calls Try.prog 28 #[.int .u64 a, .int .u64 b] w fun e w' => e = .returned (.int .u64 (dr (a * b))) ∧ Below w.heap.size w w' := by
  have E := Lib.hid (mulw_eq a b)
  go_enter Try.func28, Try.ntmps28
  go_wp2_with fail
  refine (refLow_any _ ha _).mono ?_; rintro e w' ⟨rfl, rfl⟩
  go_wp2_with fail
  refine (refLow_any _ hb _).mono ?_; rintro e w' ⟨rfl, rfl⟩
  go_wp2_with fail
  refine (refMul_any _ _ (lw_in _) (lw_in _) _).mono ?_; rintro e w1 ⟨rfl, hb1⟩
  go_wp2_with fail
  refine (refDrawn_any _ (wd_in _) _).mono ?_; rintro e w2 ⟨rfl, hb2⟩
  go_wp2
  go_ret
  exact ⟨ret_int E.out, hb1.trans (hb2.mono hb1.size)⟩

theorem refDivw_any (a b : Int) (ha : In64 a) (hb : In64 b) (w : World) :
    Calls Try.prog 33 #[.int .u64 a, .int .u64 b] w fun e w' => e = .returned (.int .u64 (dr (divZ (dr a) (dr b)))) ∧ Below w.heap.size w w' := by
  have HZ : Hid (In64 (divZ (dr a) (dr b))) := divZ_in (dr_in _) (dr_in _)
  by_cases c : lw b = 0
  · have E : Hid (18446744073709551615 = dr (divZ (dr a) (dr b))) := by
      refine Lib.hid ?_
      unfold divZ; rw [if_pos (dr_zero.2 c)]; rw [dr_all]
    go_enter Try.func33, Try.ntmps33
    go_wp2_with fail
    refine (refLow_any _ hb _).mono ?_; rintro e w' ⟨rfl, rfl⟩
    go_wp2
    go_ret
    exact ⟨ret_int E.out, Below.refl _ _⟩
  · have hd : (lw b == 0) = false := by simpa using c
    clear c
    go_enter Try.func33, Try.ntmps33
    go_wp2_with fail
    refine (refLow_any _ hb _).mono ?_; rintro e w' ⟨rfl, rfl⟩
    go_wp2_with fail
    refine (refDrawn_any _ ha _).mono ?_; rintro e w1 ⟨rfl, hb1⟩
    go_wp2_with fail
    refine (refDrawn_any _ hb _).mono ?_; rintro e w2 ⟨rfl, hb2⟩
    go_wp2_with fail
    refine (refDiv_any _ _ (dr_in _) (dr_in _) _).mono ?_; rintro e w' ⟨rfl, rfl⟩
    go_wp2_with fail
    refine (refDrawn_any _ HZ.out _).mono ?_; rintro e w3 ⟨rfl, hb3⟩
    go_wp2
    go_ret
    have h12 := hb1.trans (hb2.mono hb1.size)
    exact ⟨rfl, h12.trans (hb3.mono h12.size)⟩

theorem refRemw_any (a b : Int) (ha : In64 a) (hb : In64 b) (w : World) :
    Calls Try.prog 35 #[.int .u64 a, .int .u64 b] w fun e w' => e = .returned (.int .u64 (dr (remZ (dr a) (dr b)))) ∧ Below w.heap.size w w' := by
  have HZ : Hid (In64 (remZ (dr a) (dr b))) := remZ_in (dr_in _) (dr_in _)
  by_cases c : lw b = 0
  · have E : Hid (dr a = dr (remZ (dr a) (dr b))) := by
      refine Lib.hid ?_
      unfold remZ; rw [if_pos (dr_zero.2 c)]; rw [dr_dr]
    go_enter Try.func35, Try.ntmps35
    go_wp2_with fail
    refine (refLow_any _ hb _).mono ?_; rintro e w' ⟨rfl, rfl⟩
    go_wp2_with fail
    refine (refDrawn_any _ ha _).mono ?_; rintro e w1 ⟨rfl, hb1⟩
    go_wp2
    go_ret
    exact ⟨ret_int E.out, hb1⟩
  · have hd : (lw b == 0) = false := by simpa using c
    clear c
    go_enter Try.func35, Try.ntmps35
    go_wp2_with fail
    refine (refLow_any _ hb _).mono ?_; rintro e w' ⟨rfl, rfl⟩
    go_wp2_with fail
    refine (refDrawn_any _ ha _).mono ?_; rintro e w1 ⟨rfl, hb1⟩
    go_wp2_with fail
    refine (refDrawn_any _ hb _).mono ?_; rintro e w2 ⟨rfl, hb2⟩
    go_wp2_with fail
    refine (refRem_any _ _ (dr_in _) (dr_in _) _).mono ?_; rintro e w' ⟨rfl, rfl⟩
    go_wp2_with fail
    refine (refDrawn_any _ HZ.out _).mono ?_; rintro e w3 ⟨rfl, hb3⟩
    go_wp2
    go_ret
    have h12 := hb1.trans (hb2.mono hb1.size)
    exact ⟨rfl, h12.trans (hb3.mono h12.size)⟩

theorem refDivuw_any (a b : Int) (ha : In64 a) (hb : In64 b) (w : World) :
    Calls Try.prog 34 #[.int .u64 a, .int .u64 b] w fun e w' => e = .returned (.int .u64 (dr (divuZ (lw a) (lw b)))) ∧ Below w.heap.size w w' := by
  have HZ : In64 (divuZ (lw a) (lw b)) := divuZ_in (lw_in _) (lw_in _)
  by_cases c : lw b = 0
  · have E : Hid (18446744073709551615 = dr (divuZ (lw a) (lw b))) := by
      refine Lib.hid ?_
      unfold divuZ; rw [if_pos c]; rw [dr_all]
    go_enter Try.func34, Try.ntmps34
    go_wp2_with fail
    refine (refLow_any _ hb _).mono ?_; rintro e w' ⟨rfl, rfl⟩
    go_wp2
    go_ret
    exact ⟨ret_int E.out, Below.refl _ _⟩
  · have hd : (lw b == 0) = false := by simpa using c
    have h1 := (lw_in a).1
    have h2 := (lw_in b).1
    have E : Hid (IntKind.u64.wrap ((lw a).tdiv (lw b)) = divuZ (lw a) (lw b)) := by
      refine Lib.hid ?_
      unfold divuZ at *; rw [if_neg c] at *; rw [wrap_wd, Int.tdiv_eq_ediv_of_nonneg h1, wd_of HZ]
    have HZ2 := Lib.hid HZ
    clear HZ
    go_enter Try.func34, Try.ntmps34
    go_wp2_with fail
    refine (refLow_any _ hb _).mono ?_; rintro e w' ⟨rfl, rfl⟩
    go_wp2_with fail
    refine (refLow_any _ ha _).mono ?_; rintro e w' ⟨rfl, rfl⟩
    go_wp2_with fail
    refine (refLow_any _ hb _).mono ?_; rintro e w' ⟨rfl, rfl⟩
    go_wp2_with fail
    refine (refDrawn_any _ (by rw [E.out]; exact HZ2.out) _).mono ?_; rintro e w3 ⟨rfl, hb3⟩
    go_wp2
    go_ret
    exact ⟨ret_int (by rw [← E.out]), hb3⟩

theorem refRemuw_any (a b : Int) (ha : In64 a) (hb : In64 b) (w : World) :
    Calls Try.prog 36 #[.int .u64 a, .int .u64 b] w fun e w' => e = .returned (.int .u64 (dr (remuZ (lw a) (lw b)))) ∧ Below w.heap.size w w' := by
  have HZ : In64 (remuZ (lw a) (lw b)) := remuZ_in (lw_in _) (lw_in _)
  by_cases c : lw b = 0
  · have E : Hid (dr a = dr (remuZ (lw a) (lw b))) := by
      refine Lib.hid ?_
      unfold remuZ; rw [if_pos c]; rw [dr_lw]
    go_enter Try.func36, Try.ntmps36
    go_wp2_with fail
    refine (refLow_any _ hb _).mono ?_; rintro e w' ⟨rfl, rfl⟩
    go_wp2_with fail
    refine (refDrawn_any _ ha _).mono ?_; rintro e w1 ⟨rfl, hb1⟩
    go_wp2
    go_ret
    exact ⟨ret_int E.out, hb1⟩
  · have hd : (lw b == 0) = false := by simpa using c
    have h1 := (lw_in a).1
    have h2 := (lw_in b).1
    have E : Hid (lw a % lw b = remuZ (lw a) (lw b)) := by
      refine Lib.hid ?_
      unfold remuZ at *; rw [if_neg c] at *
    have HZ2 := Lib.hid HZ
    clear HZ
    go_enter Try.func36, Try.ntmps36
    go_wp2_with fail
    refine (refLow_any _ hb _).mono ?_; rintro e w' ⟨rfl, rfl⟩
    go_wp2_with fail
    refine (refLow_any _ ha _).mono ?_; rintro e w' ⟨rfl, rfl⟩
    go_wp2_with fail
    refine (refLow_any _ hb _).mono ?_; rintro e w' ⟨rfl, rfl⟩
    go_wp2_with fail
    refine (refDrawn_any _ (by rw [E.out]; exact HZ2.out) _).mono ?_; rintro e w3 ⟨rfl, hb3⟩
    go_wp2
    go_ret
    exact ⟨ret_int (by rw [← E.out]), hb3⟩

end Go.Proofs.Ytmbonfaeclbeaaa
