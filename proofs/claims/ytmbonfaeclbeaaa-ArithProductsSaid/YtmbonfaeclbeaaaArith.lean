/- The contracts of package arith's products, quotients and rests: what each call answers, and that it leaves memory as it was. -/
import Derived.Test.YtmbonfaeclbeaaaOfBits
import Derived.Test.YtmbonfaeclbeaaaAr
import Derived.Below
namespace Go.Proofs.Ytmbonfaeclbeaaa
open Go.RowKit
set_option linter.unusedVariables false

/-- The lower half of a word by a mask. -/
theorem and_low {x : Int} (h : In64 x) : bits .and .u64 x 4294967295 = x % 4294967296 := by
  rw [bits_and]
  have e : V x &&& V 4294967295 = BitVec.ofNat 64 ((V x).toNat % 4294967296) := by
    apply BitVec.eq_of_toNat_eq
    rw [BitVec.toNat_and, BitVec.toNat_ofNat, show (V 4294967295).toNat = 2 ^ 32 - 1 from rfl, Nat.and_two_pow_sub_one_eq_mod]
    omega
  have hx := toNat_V h
  have hl := (V x).isLt
  rw [e]
  unfold U
  rw [BitVec.toNat_ofNat]
  omega

/-- A product of two halves. -/
theorem halves_le {p q : Int} (hp : 0 ≤ p ∧ p ≤ 4294967295) (hq : 0 ≤ q ∧ q ≤ 4294967295) : 0 ≤ p * q ∧ p * q ≤ 18446744065119617025 :=
  ⟨Int.mul_nonneg hp.1 hq.1, Int.mul_le_mul (a := p) (c := 4294967295) (d := 4294967295) hp.2 hq.2 hq.1 (by omega)⟩

/-- The upper half of a product as the school reckons it, by halves: nothing is lost on the way. -/
theorem school {a1 a0 b1 b0 : Int} (h1 : 0 ≤ a1 ∧ a1 ≤ 4294967295) (h0 : 0 ≤ a0 ∧ a0 ≤ 4294967295) (k1 : 0 ≤ b1 ∧ b1 ≤ 4294967295) (k0 : 0 ≤ b0 ∧ b0 ≤ 4294967295) :
    wd (wd (wd (a1 * b1) + wd (wd (a1 * b0) + wd (a0 * b0) / 4294967296) / 4294967296) + wd (wd (wd (a1 * b0) + wd (a0 * b0) / 4294967296) % 4294967296 + wd (a0 * b1)) / 4294967296) =
      hiZ (a1 * 4294967296 + a0) (b1 * 4294967296 + b0) := by
  have e : (a1 * 4294967296 + a0) * (b1 * 4294967296 + b0) = a1 * b1 * 18446744073709551616 + (a1 * b0 + a0 * b1) * 4294967296 + a0 * b0 := by
    have x1 : a1 * 4294967296 * (b1 * 4294967296) = a1 * b1 * 18446744073709551616 := by
      rw [Int.mul_assoc, Int.mul_left_comm 4294967296 b1 4294967296, ← Int.mul_assoc]; rfl
    have x2 : a1 * 4294967296 * b0 = a1 * b0 * 4294967296 := Int.mul_right_comm _ _ _
    have x3 : a0 * (b1 * 4294967296) = a0 * b1 * 4294967296 := (Int.mul_assoc _ _ _).symm
    rw [Int.add_mul, Int.mul_add, Int.mul_add, x1, x2, x3]
    generalize a1 * b1 = p
    generalize a1 * b0 = q
    generalize a0 * b1 = r
    generalize a0 * b0 = s
    omega
  have p := halves_le h1 k1
  have q := halves_le h1 k0
  have r := halves_le h0 k1
  have s := halves_le h0 k0
  unfold hiZ
  rw [e]
  generalize a1 * b1 = p1 at *
  generalize a1 * b0 = q1 at *
  generalize a0 * b1 = r1 at *
  generalize a0 * b0 = s1 at *
  unfold wd
  omega

theorem two_words {k : IntKind} {x y u v : Int} (h : x = u) (g : y = v) : Ending.returned (.tuple #[.int k x, .int k y]) = .returned (.tuple #[.int k u, .int k v]) := by rw [h, g]

set_option maxHeartbeats 1000000 in
theorem mul64_any (a b : Int) (ha : In64 a) (hb : In64 b) (w : World) :
    Calls Try.prog 39 #[.int .u64 a, .int .u64 b] w fun e w' => e = .returned (.tuple #[.int .u64 (hiZ a b), .int .u64 (wd (a * b))]) ∧ w = w' := by
  have a0 := ha.1
  have b0 := hb.1
  have E : Hid (wd (wd (wd (a / 4294967296 * (b / 4294967296)) + wd (wd (a / 4294967296 * (b % 4294967296)) + wd (a % 4294967296 * (b % 4294967296)) / 4294967296) / 4294967296) +
      wd (wd (wd (a / 4294967296 * (b % 4294967296)) + wd (a % 4294967296 * (b % 4294967296)) / 4294967296) % 4294967296 + wd (a % 4294967296 * (b / 4294967296))) / 4294967296) = hiZ a b) := by
    refine Lib.hid ?_
    unfold In64 at ha hb
    rw [school (by omega) (by omega) (by omega) (by omega), Int.ediv_mul_add_emod, Int.ediv_mul_add_emod]
  have LA := Lib.hid (and_low ha)
  have LB := Lib.hid (and_low hb)
  have LW : Hid (∀ x, bits .and .u64 (wd x) 4294967295 = wd x % 4294967296) := Lib.hid fun x => and_low (wd_in x)
  clear ha hb
  go_enter Try.func39, Try.ntmps39
  go_wp2
  go_ret2
  refine ⟨two_words ?_ (wrap_wd _), rfl⟩
  rw [LA.out, LB.out]
  simp only [wrap_wd]
  rw [LW.out]
  exact E.out

theorem mulhu_any (a b : Int) (ha : In64 a) (hb : In64 b) (w : World) :
    Calls Try.prog 13 #[.int .u64 a, .int .u64 b] w fun e w' => e = .returned (.int .u64 (hiZ a b)) ∧ w = w' := by
  go_enter Try.func13, Try.ntmps13
  go_wp2_with (go_at_call 39; refine (mul64_any _ _ ha hb _).mono ?_; rintro e w' ⟨rfl, rfl⟩)
  go_ret
  exact ⟨rfl, rfl⟩

theorem ifBelow0_any (a b : Int) (ha : In64 a) (w : World) :
    Calls Try.prog 38 #[.int .u64 a, .int .u64 b] w fun e w' => e = .returned (.int .u64 (nz a b)) ∧ w = w' := by
  have h1 := ha.1
  have h2 : Hid (a < 2 ^ 64) := ha.2
  have T := top_bit ha
  by_cases c : 9223372036854775808 ≤ a
  · rw [decide_eq_true c] at T
    rw [show nz a b = b by unfold nz; rw [if_pos c]]
    clear c
    go_enter Try.func38, Try.ntmps38
    go_wp2_with (go_at_call 49; refine (bit64_any _ _ h1 h2.out _).mono ?_; rintro e w' ⟨rfl, rfl⟩)
    go_ret
    exact ⟨rfl, rfl⟩
  · rw [decide_eq_false c] at T
    rw [show nz a b = 0 by unfold nz; rw [if_neg c]]
    clear c
    go_enter Try.func38, Try.ntmps38
    go_wp2_with (go_at_call 49; refine (bit64_any _ _ h1 h2.out _).mono ?_; rintro e w' ⟨rfl, rfl⟩)
    go_ret
    exact ⟨rfl, rfl⟩

theorem mulhsu_any (a b : Int) (ha : In64 a) (hb : In64 b) (w : World) :
    Calls Try.prog 12 #[.int .u64 a, .int .u64 b] w fun e w' => e = .returned (.int .u64 (hiZ (sg a) b)) ∧ w = w' := by
  have E := Lib.hid (hi_su ha hb)
  go_enter Try.func12, Try.ntmps12
  go_wp2_with (first | (go_at_call 13; refine (mulhu_any _ _ ha hb _).mono ?_; rintro e w' ⟨rfl, rfl⟩) | (go_at_call 38; refine (ifBelow0_any _ _ ha _).mono ?_; rintro e w' ⟨rfl, rfl⟩))
  go_ret
  exact ⟨ret_int (by rw [wrap_wd, E.out]), rfl⟩

theorem mulh_any (a b : Int) (ha : In64 a) (hb : In64 b) (w : World) :
    Calls Try.prog 11 #[.int .u64 a, .int .u64 b] w fun e w' => e = .returned (.int .u64 (hiZ (sg a) (sg b))) ∧ w = w' := by
  have E := Lib.hid (hi_ss ha hb)
  go_enter Try.func11, Try.ntmps11
  go_wp2_with (first | (go_at_call 12; refine (mulhsu_any _ _ ha hb _).mono ?_; rintro e w' ⟨rfl, rfl⟩) | (go_at_call 38; refine (ifBelow0_any _ _ hb _).mono ?_; rintro e w' ⟨rfl, rfl⟩))
  go_ret
  exact ⟨ret_int (by rw [wrap_wd, E.out]), rfl⟩

theorem mul_any (a b : Int) (w : World) :
    Calls Try.prog 41 #[.int .u64 a, .int .u64 b] w fun e w' => e = .returned (.int .u64 (wd (a * b))) ∧ w = w' := by
  go_enter Try.func41, Try.ntmps41
  go_wp2
  go_ret
  exact ⟨ret_int (wrap_wd _), rfl⟩

theorem divZ_in {a b : Int} (ha : In64 a) (hb : In64 b) : In64 (divZ a b) := by
  unfold divZ; split
  · unfold In64; omega
  · exact wd_in _
theorem remZ_in {a b : Int} (ha : In64 a) (hb : In64 b) : In64 (remZ a b) := by
  unfold remZ; split
  · exact ha
  · exact wd_in _
theorem divuZ_in {a b : Int} (ha : In64 a) (hb : In64 b) : In64 (divuZ a b) := by
  unfold divuZ; split
  · unfold In64; omega
  · have h1 := Int.ediv_nonneg ha.1 hb.1
    have h2 := Int.ediv_le_self b ha.1
    have h3 := ha.2
    exact ⟨h1, by omega⟩
theorem remuZ_in {a b : Int} (ha : In64 a) (hb : In64 b) : In64 (remuZ a b) := by
  unfold remuZ; split
  · exact ha
  · rename_i c
    have h1 := Int.emod_nonneg a c
    have h2 := Int.emod_lt_of_pos a (show 0 < b by have := hb.1; omega)
    have h3 := hb.2
    exact ⟨h1, by omega⟩

theorem div_any (a b : Int) (ha : In64 a) (hb : In64 b) (w : World) :
    Calls Try.prog 15 #[.int .u64 a, .int .u64 b] w fun e w' => e = .returned (.int .u64 (divZ a b)) ∧ w = w' := by
  by_cases c : b = 0
  · subst c
    go_enter Try.func15, Try.ntmps15
    go_wp2
    go_ret
    exact ⟨rfl, rfl⟩
  · have hd : (b == 0) = false := by simpa using c
    have hz : ¬ wrap64 b = 0 := by rw [wrap64_sg hb]; exact fun h => c ((sg_zero hb).1 h)
    have E : Hid (wd ((wrap64 a).tdiv (wrap64 b)) = divZ a b) := by unfold divZ; rw [if_neg c, wrap64_sg ha, wrap64_sg hb]; rfl
    clear c
    go_enter Try.func15, Try.ntmps15
    go_wp2
    go_ret
    exact ⟨ret_int (by rw [wrap_wd, wd_wrap64, E.out]), rfl⟩

theorem rem_any (a b : Int) (ha : In64 a) (hb : In64 b) (w : World) :
    Calls Try.prog 14 #[.int .u64 a, .int .u64 b] w fun e w' => e = .returned (.int .u64 (remZ a b)) ∧ w = w' := by
  by_cases c : b = 0
  · subst c
    go_enter Try.func14, Try.ntmps14
    go_wp2
    go_ret
    exact ⟨rfl, rfl⟩
  · have hd : (b == 0) = false := by simpa using c
    have hz : ¬ wrap64 b = 0 := by rw [wrap64_sg hb]; exact fun h => c ((sg_zero hb).1 h)
    have E : Hid (wd ((wrap64 a).tmod (wrap64 b)) = remZ a b) := by unfold remZ; rw [if_neg c, wrap64_sg ha, wrap64_sg hb]; rfl
    clear c
    go_enter Try.func14, Try.ntmps14
    go_wp2
    go_ret
    exact ⟨ret_int (by rw [wrap_wd, E.out]), rfl⟩

theorem divu_any (a b : Int) (ha : In64 a) (hb : In64 b) (w : World) :
    Calls Try.prog 16 #[.int .u64 a, .int .u64 b] w fun e w' => e = .returned (.int .u64 (divuZ a b)) ∧ w = w' := by
  by_cases c : b = 0
  · subst c
    go_enter Try.func16, Try.ntmps16
    go_wp2
    go_ret
    exact ⟨rfl, rfl⟩
  · have hd : (b == 0) = false := by simpa using c
    have h1 := ha.1
    have h2 := hb.1
    have E : Hid (IntKind.u64.wrap (a.tdiv b) = divuZ a b) := by
      have i := divuZ_in ha hb
      unfold divuZ at *; rw [if_neg c] at *
      rw [wrap_wd, Int.tdiv_eq_ediv_of_nonneg h1, wd_of i]; rfl
    go_enter Try.func16, Try.ntmps16
    go_wp2
    go_ret
    exact ⟨ret_int E.out, rfl⟩

theorem remu_any (a b : Int) (ha : In64 a) (hb : In64 b) (w : World) :
    Calls Try.prog 17 #[.int .u64 a, .int .u64 b] w fun e w' => e = .returned (.int .u64 (remuZ a b)) ∧ w = w' := by
  by_cases c : b = 0
  · subst c
    go_enter Try.func17, Try.ntmps17
    go_wp2
    go_ret
    exact ⟨rfl, rfl⟩
  · have hd : (b == 0) = false := by simpa using c
    have h1 := ha.1
    have h2 := hb.1
    have E : Hid (remuZ a b = a % b) := by unfold remuZ; rw [if_neg c]; rfl
    go_enter Try.func17, Try.ntmps17
    go_wp2
    go_ret
    exact ⟨ret_int E.out.symm, rfl⟩

theorem drawn_any (a : Int) (ha : In64 a) (w : World) :
    Calls Try.prog 40 #[.int .u64 a] w fun e w' => e = .returned (.int .u64 (dr a)) ∧ w = w' := by
  have E := Lib.hid (sext32 ha)
  go_enter Try.func40, Try.ntmps40
  go_wp2_with (go_at_call 50; refine (sext_any _ _ _).mono ?_; rintro e w' ⟨rfl, rfl⟩)
  go_ret
  exact ⟨ret_int E.out, rfl⟩

theorem lower_any (a : Int) (ha : In64 a) (w : World) :
    Calls Try.prog 42 #[.int .u64 a] w fun e w' => e = .returned (.int .u64 (lw a)) ∧ ∃ k, w' = w.drewN k := by
  have E := Lib.hid (field32 ha)
  go_enter Try.func42, Try.ntmps42
  go_wp2_with (go_at_call 51; refine (field_any _ _ _ ha _).mono ?_; rintro e w' ⟨rfl, k, rfl⟩)
  go_ret
  exact ⟨ret_int E.out, k, rfl⟩

theorem mulw_any (a b : Int) (w : World) :
    Calls Try.prog 18 #[.int .u64 a, .int .u64 b] w fun e w' => e = .returned (.int .u64 (dr (a * b))) ∧ w = w' := by
  have E := Lib.hid (dr_wd (a * b))
  go_enter Try.func18, Try.ntmps18
  go_wp2_with (first | (go_at_call 41; refine (mul_any _ _ _).mono ?_; rintro e w' ⟨rfl, rfl⟩) | (go_at_call 40; refine (drawn_any _ (wd_in _) _).mono ?_; rintro e w' ⟨rfl, rfl⟩))
  go_ret
  exact ⟨ret_int E.out, rfl⟩

theorem divw_any (a b : Int) (ha : In64 a) (hb : In64 b) (w : World) :
    Calls Try.prog 19 #[.int .u64 a, .int .u64 b] w fun e w' => e = .returned (.int .u64 (dr (divZ (dr a) (dr b)))) ∧ w = w' := by
  have HZ : Hid (In64 (divZ (dr a) (dr b))) := divZ_in (dr_in _) (dr_in _)
  go_enter Try.func19, Try.ntmps19
  go_wp2_with fail
  refine (drawn_any _ ha _).mono ?_; rintro e w' ⟨rfl, rfl⟩
  go_wp2_with fail
  refine (drawn_any _ hb _).mono ?_; rintro e w' ⟨rfl, rfl⟩
  go_wp2_with fail
  refine (div_any _ _ (dr_in _) (dr_in _) _).mono ?_; rintro e w' ⟨rfl, rfl⟩
  go_wp2_with fail
  refine (drawn_any _ HZ.out _).mono ?_; rintro e w' ⟨rfl, rfl⟩
  go_wp2
  go_ret
  exact ⟨rfl, rfl⟩

theorem remw_any (a b : Int) (ha : In64 a) (hb : In64 b) (w : World) :
    Calls Try.prog 20 #[.int .u64 a, .int .u64 b] w fun e w' => e = .returned (.int .u64 (dr (remZ (dr a) (dr b)))) ∧ w = w' := by
  have HZ : Hid (In64 (remZ (dr a) (dr b))) := remZ_in (dr_in _) (dr_in _)
  go_enter Try.func20, Try.ntmps20
  go_wp2_with fail
  refine (drawn_any _ ha _).mono ?_; rintro e w' ⟨rfl, rfl⟩
  go_wp2_with fail
  refine (drawn_any _ hb _).mono ?_; rintro e w' ⟨rfl, rfl⟩
  go_wp2_with fail
  refine (rem_any _ _ (dr_in _) (dr_in _) _).mono ?_; rintro e w' ⟨rfl, rfl⟩
  go_wp2_with fail
  refine (drawn_any _ HZ.out _).mono ?_; rintro e w' ⟨rfl, rfl⟩
  go_wp2
  go_ret
  exact ⟨rfl, rfl⟩

theorem divuw_any (a b : Int) (ha : In64 a) (hb : In64 b) (w : World) :
    Calls Try.prog 21 #[.int .u64 a, .int .u64 b] w fun e w' => e = .returned (.int .u64 (dr (divuZ (lw a) (lw b)))) ∧ ∃ k, w' = w.drewN k := by
  have HZ : Hid (In64 (divuZ (lw a) (lw b))) := divuZ_in (lw_in _) (lw_in _)
  go_enter Try.func21, Try.ntmps21
  go_wp2_with fail
  refine (lower_any _ ha _).mono ?_; rintro e w' ⟨rfl, k1, rfl⟩
  go_wp2_with fail
  refine (lower_any _ hb _).mono ?_; rintro e w' ⟨rfl, k2, rfl⟩
  go_wp2_with fail
  refine (divu_any _ _ (lw_in _) (lw_in _) _).mono ?_; rintro e w' ⟨rfl, rfl⟩
  go_wp2_with fail
  refine (drawn_any _ HZ.out _).mono ?_; rintro e w' ⟨rfl, rfl⟩
  go_wp2
  go_ret
  exact ⟨rfl, k1 + k2, by simp⟩

theorem remuw_any (a b : Int) (ha : In64 a) (hb : In64 b) (w : World) :
    Calls Try.prog 22 #[.int .u64 a, .int .u64 b] w fun e w' => e = .returned (.int .u64 (dr (remuZ (lw a) (lw b)))) ∧ ∃ k, w' = w.drewN k := by
  have HZ : Hid (In64 (remuZ (lw a) (lw b))) := remuZ_in (lw_in _) (lw_in _)
  go_enter Try.func22, Try.ntmps22
  go_wp2_with fail
  refine (lower_any _ ha _).mono ?_; rintro e w' ⟨rfl, k1, rfl⟩
  go_wp2_with fail
  refine (lower_any _ hb _).mono ?_; rintro e w' ⟨rfl, k2, rfl⟩
  go_wp2_with fail
  refine (remu_any _ _ (lw_in _) (lw_in _) _).mono ?_; rintro e w' ⟨rfl, rfl⟩
  go_wp2_with fail
  refine (drawn_any _ HZ.out _).mono ?_; rintro e w' ⟨rfl, rfl⟩
  go_wp2
  go_ret
  exact ⟨rfl, k1 + k2, by simp⟩

end Go.Proofs.Ytmbonfaeclbeaaa
