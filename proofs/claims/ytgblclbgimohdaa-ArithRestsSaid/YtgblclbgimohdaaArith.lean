/- The contracts of package arith's products, quotients and rests: what each call answers, and that it leaves memory as it was. -/
import Derived.Test.YtgblclbgimohdaaOfBits
import Derived.Test.YtgblclbgimohdaaAr
import Derived.Lib.Mul64
import Derived.Laws.Bits64b
import Derived.Below
namespace Go.Proofs.Ytgblclbgimohdaa
open Go.RowKit
set_option linter.unusedVariables false

theorem maskN (a : Nat) (ha : a < 18446744073709551616) : bits .and .u64 (a : Int) 4294967295 = ((a % 4294967296 : Nat) : Int) := by
  have h := bits_and_u64_nat a 4294967295 ha (by omega)
  have e : a &&& 4294967295 = a % 4294967296 := Nat.and_two_pow_sub_one_eq_mod a 32
  rw [e] at h
  exact h
theorem divN (a : Nat) : (a : Int) / 4294967296 = ((a / 4294967296 : Nat) : Int) := by omega
theorem mulN (a b : Nat) : (a : Int) * (b : Int) = ((a * b : Nat) : Int) := (Int.natCast_mul a b).symm
theorem addN (a b : Nat) : (a : Int) + (b : Int) = ((a + b : Nat) : Int) := (Int.natCast_add a b).symm
theorem wrapN (a : Nat) (ha : a < 18446744073709551616) : IntKind.u64.wrap (a : Int) = (a : Int) := by rw [IntKind.wrap_u64]; omega
theorem wrapM (a : Nat) : IntKind.u64.wrap (a : Int) = ((a % 18446744073709551616 : Nat) : Int) := by rw [IntKind.wrap_u64]; omega

set_option maxRecDepth 100000 in
set_option maxHeartbeats 1000000 in
theorem mul64_nat (x y : Nat) (hx : x < 18446744073709551616) (hy : y < 18446744073709551616) (w : World) :
    Calls Try.prog 39 #[.int .u64 x, .int .u64 y] w fun e w' => e = .returned (.tuple #[.int .u64 ((x * y / 18446744073709551616 : Nat) : Int), .int .u64 ((x * y % 18446744073709551616 : Nat) : Int)]) ∧ w = w' := by
  obtain ⟨bd, bt, bw, hhi⟩ := Lib.mul64_hi x y hx hy
  have ba := Lib.half_mul_le (a := x / 4294967296) (b := y / 4294967296) (by omega) (by omega)
  have bb := Lib.half_mul_le (a := x / 4294967296) (b := y % 4294967296) (by omega) (by omega)
  have bc := Lib.half_mul_le (a := x % 4294967296) (b := y / 4294967296) (by omega) (by omega)
  have ba' : x / 4294967296 * (y / 4294967296) < 18446744073709551616 := by omega
  have bb' : x / 4294967296 * (y % 4294967296) < 18446744073709551616 := by omega
  have bc' : x % 4294967296 * (y / 4294967296) < 18446744073709551616 := by omega
  have bh1 : x / 4294967296 * (y / 4294967296) + (x / 4294967296 * (y % 4294967296) + x % 4294967296 * (y % 4294967296) / 4294967296) / 4294967296 < 18446744073709551616 := by omega
  have bh : x / 4294967296 * (y / 4294967296) + (x / 4294967296 * (y % 4294967296) + x % 4294967296 * (y % 4294967296) / 4294967296) / 4294967296 + ((x / 4294967296 * (y % 4294967296) + x % 4294967296 * (y % 4294967296) / 4294967296) % 4294967296 + x % 4294967296 * (y / 4294967296)) / 4294967296 < 18446744073709551616 := by omega
  go_enter Try.func39, Try.ntmps39
  go_wp2
  rw [maskN x hx, maskN y hy, divN x, divN y, mulN (x % 4294967296) (y % 4294967296), wrapN _ bd, divN (x % 4294967296 * (y % 4294967296)), mulN (x / 4294967296) (y % 4294967296), wrapN _ bb', addN (x / 4294967296 * (y % 4294967296)), wrapN _ bt, maskN _ bt, divN (x / 4294967296 * (y % 4294967296) + x % 4294967296 * (y % 4294967296) / 4294967296), mulN (x % 4294967296) (y / 4294967296), wrapN _ bc', addN _ (x % 4294967296 * (y / 4294967296)), wrapN _ bw, divN (_ + x % 4294967296 * (y / 4294967296)), mulN (x / 4294967296) (y / 4294967296), wrapN _ ba', addN (x / 4294967296 * (y / 4294967296)), wrapN _ bh1, addN, wrapN _ bh, mulN x y, wrapM (x * y)]
  rw [hhi]
  go_ret2
  exact ⟨rfl, rfl⟩

theorem mul64_any (a b : Int) (ha : In64 a) (hb : In64 b) (w : World) :
    Calls Try.prog 39 #[.int .u64 a, .int .u64 b] w fun e w' => e = .returned (.tuple #[.int .u64 (hiZ a b), .int .u64 (wd (a * b))]) ∧ w = w' := by
  obtain ⟨x, rfl⟩ := Int.eq_ofNat_of_zero_le ha.1
  obtain ⟨y, rfl⟩ := Int.eq_ofNat_of_zero_le hb.1
  have h := (hi_nat ha hb).1
  have hx := ha.2
  have hy := hb.2
  rw [h]
  refine (mul64_nat x y (by omega) (by omega) w).mono ?_
  rintro e w' ⟨rfl, rfl⟩
  refine ⟨?_, rfl⟩
  unfold wd
  rw [Int.natCast_ediv, Int.natCast_emod, Int.natCast_mul]; rfl

theorem mulhu_any (a b : Int) (ha : In64 a) (hb : In64 b) (w : World) :
    Calls Try.prog 13 #[.int .u64 a, .int .u64 b] w fun e w' => e = .returned (.int .u64 (hiZ a b)) ∧ w = w' := by
  go_enter Try.func13, Try.ntmps13
  go_wp2_with (go_at_call 39; refine (mul64_any _ _ ha hb _).mono ?_; rintro e w' ⟨rfl, rfl⟩)
  go_ret
  exact ⟨rfl, rfl⟩

theorem ifBelow0_any (a b : Int) (ha : In64 a) (w : World) :
    Calls Try.prog 38 #[.int .u64 a, .int .u64 b] w fun e w' => e = .returned (.int .u64 (nz a b)) ∧ w = w' := by
  have h1 := ha.1
  have h2 : Hid (a < 2 ^ 64) := ha.2
  have T := top_bit ha
  by_cases c : 9223372036854775808 ≤ a
  · rw [decide_eq_true c] at T
    rw [show nz a b = b by unfold nz; rw [if_pos c]]
    clear c
    go_enter Try.func38, Try.ntmps38
    go_wp2_with (go_at_call 49; refine (bit64_any _ _ h1 h2.out _).mono ?_; rintro e w' ⟨rfl, rfl⟩)
    go_ret
    exact ⟨rfl, rfl⟩
  · rw [decide_eq_false c] at T
    rw [show nz a b = 0 by unfold nz; rw [if_neg c]]
    clear c
    go_enter Try.func38, Try.ntmps38
    go_wp2_with (go_at_call 49; refine (bit64_any _ _ h1 h2.out _).mono ?_; rintro e w' ⟨rfl, rfl⟩)
    go_ret
    exact ⟨rfl, rfl⟩

theorem mulhsu_any (a b : Int) (ha : In64 a) (hb : In64 b) (w : World) :
    Calls Try.prog 12 #[.int .u64 a, .int .u64 b] w fun e w' => e = .returned (.int .u64 (hiZ (sg a) b)) ∧ w = w' := by
  have E := Lib.hid (hi_su ha hb)
  go_enter Try.func12, Try.ntmps12
  go_wp2_with (first | (go_at_call 13; refine (mulhu_any _ _ ha hb _).mono ?_; rintro e w' ⟨rfl, rfl⟩) | (go_at_call 38; refine (ifBelow0_any _ _ ha _).mono ?_; rintro e w' ⟨rfl, rfl⟩))
  go_ret
  exact ⟨ret_int (by rw [wrap_wd, E.out]), rfl⟩

theorem mulh_any (a b : Int) (ha : In64 a) (hb : In64 b) (w : World) :
    Calls Try.prog 11 #[.int .u64 a, .int .u64 b] w fun e w' => e = .returned (.int .u64 (hiZ (sg a) (sg b))) ∧ w = w' := by
  have E := Lib.hid (hi_ss ha hb)
  go_enter Try.func11, Try.ntmps11
  go_wp2_with (first | (go_at_call 12; refine (mulhsu_any _ _ ha hb _).mono ?_; rintro e w' ⟨rfl, rfl⟩) | (go_at_call 38; refine (ifBelow0_any _ _ hb _).mono ?_; rintro e w' ⟨rfl, rfl⟩))
  go_ret
  exact ⟨ret_int (by rw [wrap_wd, E.out]), rfl⟩

theorem mul_any (a b : Int) (w : World) :
    Calls Try.prog 41 #[.int .u64 a, .int .u64 b] w fun e w' => e = .returned (.int .u64 (wd (a * b))) ∧ w = w' := by
  go_enter Try.func41, Try.ntmps41
  go_wp2
  go_ret
  exact ⟨ret_int (wrap_wd _), rfl⟩

theorem divZ_in {a b : Int} (ha : In64 a) (hb : In64 b) : In64 (divZ a b) := by
  unfold divZ; split
  · unfold In64; omega
  · exact wd_in _
theorem remZ_in {a b : Int} (ha : In64 a) (hb : In64 b) : In64 (remZ a b) := by
  unfold remZ; split
  · exact ha
  · exact wd_in _
theorem divuZ_in {a b : Int} (ha : In64 a) (hb : In64 b) : In64 (divuZ a b) := by
  unfold divuZ; split
  · unfold In64; omega
  · have h1 := Int.ediv_nonneg ha.1 hb.1
    have h2 := Int.ediv_le_self b ha.1
    have h3 := ha.2
    exact ⟨h1, by omega⟩
theorem remuZ_in {a b : Int} (ha : In64 a) (hb : In64 b) : In64 (remuZ a b) := by
  unfold remuZ; split
  · exact ha
  · rename_i c
    have h1 := Int.emod_nonneg a c
    have h2 := Int.emod_lt_of_pos a (show 0 < b by have := hb.1; omega)
    have h3 := hb.2
    exact ⟨h1, by omega⟩

theorem div_any (a b : Int) (ha : In64 a) (hb : In64 b) (w : World) :
    Calls Try.prog 15 #[.int .u64 a, .int .u64 b] w fun e w' => e = .returned (.int .u64 (divZ a b)) ∧ w = w' := by
  by_cases c : b = 0
  · subst c
    go_enter Try.func15, Try.ntmps15
    go_wp2
    go_ret
    exact ⟨rfl, rfl⟩
  · have hd : (b == 0) = false := by simpa using c
    have hz : ¬ wrap64 b = 0 := by rw [wrap64_sg hb]; exact fun h => c ((sg_zero hb).1 h)
    have E : Hid (wd ((wrap64 a).tdiv (wrap64 b)) = divZ a b) := by unfold divZ; rw [if_neg c, wrap64_sg ha, wrap64_sg hb]; rfl
    clear c
    go_enter Try.func15, Try.ntmps15
    go_wp2
    go_ret
    exact ⟨ret_int (by rw [wrap_wd, wd_wrap64, E.out]), rfl⟩

theorem rem_any (a b : Int) (ha : In64 a) (hb : In64 b) (w : World) :
    Calls Try.prog 14 #[.int .u64 a, .int .u64 b] w fun e w' => e = .returned (.int .u64 (remZ a b)) ∧ w = w' := by
  by_cases c : b = 0
  · subst c
    go_enter Try.func14, Try.ntmps14
    go_wp2
    go_ret
    exact ⟨rfl, rfl⟩
  · have hd : (b == 0) = false := by simpa using c
    have hz : ¬ wrap64 b = 0 := by rw [wrap64_sg hb]; exact fun h => c ((sg_zero hb).1 h)
    have E : Hid (wd ((wrap64 a).tmod (wrap64 b)) = remZ a b) := by unfold remZ; rw [if_neg c, wrap64_sg ha, wrap64_sg hb]; rfl
    clear c
    go_enter Try.func14, Try.ntmps14
    go_wp2
    go_ret
    exact ⟨ret_int (by rw [wrap_wd, E.out]), rfl⟩

theorem divu_any (a b : Int) (ha : In64 a) (hb : In64 b) (w : World) :
    Calls Try.prog 16 #[.int .u64 a, .int .u64 b] w fun e w' => e = .returned (.int .u64 (divuZ a b)) ∧ w = w' := by
  by_cases c : b = 0
  · subst c
    go_enter Try.func16, Try.ntmps16
    go_wp2
    go_ret
    exact ⟨rfl, rfl⟩
  · have hd : (b == 0) = false := by simpa using c
    have h1 := ha.1
    have h2 := hb.1
    have E : Hid (IntKind.u64.wrap (a.tdiv b) = divuZ a b) := by
      have i := divuZ_in ha hb
      unfold divuZ at *; rw [if_neg c] at *
      rw [wrap_wd, Int.tdiv_eq_ediv_of_nonneg h1, wd_of i]; rfl
    go_enter Try.func16, Try.ntmps16
    go_wp2
    go_ret
    exact ⟨ret_int E.out, rfl⟩

theorem remu_any (a b : Int) (ha : In64 a) (hb : In64 b) (w : World) :
    Calls Try.prog 17 #[.int .u64 a, .int .u64 b] w fun e w' => e = .returned (.int .u64 (remuZ a b)) ∧ w = w' := by
  by_cases c : b = 0
  · subst c
    go_enter Try.func17, Try.ntmps17
    go_wp2
    go_ret
    exact ⟨rfl, rfl⟩
  · have hd : (b == 0) = false := by simpa using c
    have h1 := ha.1
    have h2 := hb.1
    have E : Hid (remuZ a b = a % b) := by unfold remuZ; rw [if_neg c]; rfl
    go_enter Try.func17, Try.ntmps17
    go_wp2
    go_ret
    exact ⟨ret_int E.out.symm, rfl⟩

theorem drawn_any (a : Int) (ha : In64 a) (w : World) :
    Calls Try.prog 40 #[.int .u64 a] w fun e w' => e = .returned (.int .u64 (dr a)) ∧ w = w' := by
  have E := Lib.hid (sext32 ha)
  go_enter Try.func40, Try.ntmps40
  go_wp2_with (go_at_call 50; refine (sext_any _ _ _).mono ?_; rintro e w' ⟨rfl, rfl⟩)
  go_ret
  exact ⟨ret_int E.out, rfl⟩

theorem lower_any (a : Int) (ha : In64 a) (w : World) :
    Calls Try.prog 42 #[.int .u64 a] w fun e w' => e = .returned (.int .u64 (lw a)) ∧ ∃ k, w' = w.drewN k := by
  have E := Lib.hid (field32 ha)
  go_enter Try.func42, Try.ntmps42
  go_wp2_with (go_at_call 51; refine (field_any _ _ _ ha _).mono ?_; rintro e w' ⟨rfl, k, rfl⟩)
  go_ret
  exact ⟨ret_int E.out, k, rfl⟩

theorem mulw_any (a b : Int) (w : World) :
    Calls Try.prog 18 #[.int .u64 a, .int .u64 b] w fun e w' => e = .returned (.int .u64 (dr (a * b))) ∧ w = w' := by
  have E := Lib.hid (dr_wd (a * b))
  go_enter Try.func18, Try.ntmps18
  go_wp2_with (first | (go_at_call 41; refine (mul_any _ _ _).mono ?_; rintro e w' ⟨rfl, rfl⟩) | (go_at_call 40; refine (drawn_any _ (wd_in _) _).mono ?_; rintro e w' ⟨rfl, rfl⟩))
  go_ret
  exact ⟨ret_int E.out, rfl⟩

theorem divw_any (a b : Int) (ha : In64 a) (hb : In64 b) (w : World) :
    Calls Try.prog 19 #[.int .u64 a, .int .u64 b] w fun e w' => e = .returned (.int .u64 (dr (divZ (dr a) (dr b)))) ∧ w = w' := by
  have HZ : Hid (In64 (divZ (dr a) (dr b))) := divZ_in (dr_in _) (dr_in _)
  go_enter Try.func19, Try.ntmps19
  go_wp2_with fail
  refine (drawn_any _ ha _).mono ?_; rintro e w' ⟨rfl, rfl⟩
  go_wp2_with fail
  refine (drawn_any _ hb _).mono ?_; rintro e w' ⟨rfl, rfl⟩
  go_wp2_with fail
  refine (div_any _ _ (dr_in _) (dr_in _) _).mono ?_; rintro e w' ⟨rfl, rfl⟩
  go_wp2_with fail
  refine (drawn_any _ HZ.out _).mono ?_; rintro e w' ⟨rfl, rfl⟩
  go_wp2
  go_ret
  exact ⟨rfl, rfl⟩

theorem remw_any (a b : Int) (ha : In64 a) (hb : In64 b) (w : World) :
    Calls Try.prog 20 #[.int .u64 a, .int .u64 b] w fun e w' => e = .returned (.int .u64 (dr (remZ (dr a) (dr b)))) ∧ w = w' := by
  have HZ : Hid (In64 (remZ (dr a) (dr b))) := remZ_in (dr_in _) (dr_in _)
  go_enter Try.func20, Try.ntmps20
  go_wp2_with fail
  refine (drawn_any _ ha _).mono ?_; rintro e w' ⟨rfl, rfl⟩
  go_wp2_with fail
  refine (drawn_any _ hb _).mono ?_; rintro e w' ⟨rfl, rfl⟩
  go_wp2_with fail
  refine (rem_any _ _ (dr_in _) (dr_in _) _).mono ?_; rintro e w' ⟨rfl, rfl⟩
  go_wp2_with fail
  refine (drawn_any _ HZ.out _).mono ?_; rintro e w' ⟨rfl, rfl⟩
  go_wp2
  go_ret
  exact ⟨rfl, rfl⟩

theorem divuw_any (a b : Int) (ha : In64 a) (hb : In64 b) (w : World) :
    Calls Try.prog 21 #[.int .u64 a, .int .u64 b] w fun e w' => e = .returned (.int .u64 (dr (divuZ (lw a) (lw b)))) ∧ ∃ k, w' = w.drewN k := by
  have HZ : Hid (In64 (divuZ (lw a) (lw b))) := divuZ_in (lw_in _) (lw_in _)
  go_enter Try.func21, Try.ntmps21
  go_wp2_with fail
  refine (lower_any _ ha _).mono ?_; rintro e w' ⟨rfl, k1, rfl⟩
  go_wp2_with fail
  refine (lower_any _ hb _).mono ?_; rintro e w' ⟨rfl, k2, rfl⟩
  go_wp2_with fail
  refine (divu_any _ _ (lw_in _) (lw_in _) _).mono ?_; rintro e w' ⟨rfl, rfl⟩
  go_wp2_with fail
  refine (drawn_any _ HZ.out _).mono ?_; rintro e w' ⟨rfl, rfl⟩
  go_wp2
  go_ret
  exact ⟨rfl, k1 + k2, by simp⟩

theorem remuw_any (a b : Int) (ha : In64 a) (hb : In64 b) (w : World) :
    Calls Try.prog 22 #[.int .u64 a, .int .u64 b] w fun e w' => e = .returned (.int .u64 (dr (remuZ (lw a) (lw b)))) ∧ ∃ k, w' = w.drewN k := by
  have HZ : Hid (In64 (remuZ (lw a) (lw b))) := remuZ_in (lw_in _) (lw_in _)
  go_enter Try.func22, Try.ntmps22
  go_wp2_with fail
  refine (lower_any _ ha _).mono ?_; rintro e w' ⟨rfl, k1, rfl⟩
  go_wp2_with fail
  refine (lower_any _ hb _).mono ?_; rintro e w' ⟨rfl, k2, rfl⟩
  go_wp2_with fail
  refine (remu_any _ _ (lw_in _) (lw_in _) _).mono ?_; rintro e w' ⟨rfl, rfl⟩
  go_wp2_with fail
  refine (drawn_any _ HZ.out _).mono ?_; rintro e w' ⟨rfl, rfl⟩
  go_wp2
  go_ret
  exact ⟨rfl, k1 + k2, by simp⟩

end Go.Proofs.Ytgblclbgimohdaa
