/- The walks of layer 2's laws that speak without the document's own answer: rests, and upper halves. -/
import Derived.Test.YtmbonfaeclbeaaaLawArith
namespace Go.Proofs.Ytmbonfaeclbeaaa
open Go.RowKit
set_option linter.unusedVariables false

theorem tmod_facts (x y : Int) (hy : ¬ y = 0) : (x.tmod y < y ∨ x.tmod y < -y) ∧ (-y < x.tmod y ∨ y < x.tmod y) ∧ (0 ≤ x → 0 ≤ x.tmod y) ∧ (x ≤ 0 → x.tmod y ≤ 0) := by
  have h1 : (x.tmod y).natAbs = x.natAbs % y.natAbs := Int.natAbs_tmod x y
  have h2 : x.natAbs % y.natAbs < y.natAbs := Nat.mod_lt _ (by omega)
  have h3 : 0 ≤ x → 0 ≤ x.tmod y := fun h => Int.tmod_nonneg _ h
  have h4 : x ≤ 0 → x.tmod y ≤ 0 := fun h => by
    have := Int.tmod_nonneg (a := -x) y (by omega)
    rw [Int.neg_tmod] at this; omega
  refine ⟨by omega, by omega, h3, h4⟩

/-- What is told of the rest, read signed. -/
theorem sg_rem {a b : Int} (ha : In64 a) (hb : In64 b) (c : ¬ b = 0) : sg (remZ a b) = (sg a).tmod (sg b) := by
  have ia := sg_in ha
  have ib := sg_in hb
  have hz : ¬ sg b = 0 := fun h => c ((sg_zero hb).1 h)
  obtain ⟨f1, f2, f3, f4⟩ := tmod_facts (sg a) (sg b) hz
  unfold remZ; rw [if_neg c]
  generalize (sg a).tmod (sg b) = r at *
  unfold In63 at ia ib
  unfold sg at *
  unfold wd
  split <;> split at ib <;> omega
theorem sg_mod (a : Int) : sg a % 18446744073709551616 = a % 18446744073709551616 := by unfold sg; split <;> omega
theorem mul_cong {x y z k : Int} (h : x % k = y % k) : (x * z) % k = (y * z) % k := by rw [Int.mul_emod, h, ← Int.mul_emod]

theorem divu_back {a b : Int} (ha : In64 a) (hb : In64 b) : IntKind.u64.wrap (IntKind.u64.wrap (divuZ a b * b) + remuZ a b) = a := by
  rw [wrap_wd, wrap_wd]
  unfold divuZ remuZ
  by_cases c : b = 0
  · rw [if_pos c, if_pos c, c]; unfold In64 at ha; unfold wd; omega
  · rw [if_neg c, if_neg c]
    have h := Int.ediv_mul_add_emod a b
    unfold In64 at ha; unfold wd
    generalize a / b * b = p at *
    omega
theorem div_back {a b : Int} (ha : In64 a) (hb : In64 b) : IntKind.u64.wrap (IntKind.u64.wrap (divZ a b * b) + remZ a b) = a := by
  rw [wrap_wd, wrap_wd]
  unfold divZ remZ
  by_cases c : b = 0
  · rw [if_pos c, if_pos c, c]; unfold In64 at ha; unfold wd; omega
  · rw [if_neg c, if_neg c]
    have h := Int.tdiv_mul_add_tmod (sg a) (sg b)
    have e1 : wd ((sg a).tdiv (sg b)) * b % 18446744073709551616 = (sg a).tdiv (sg b) * sg b % 18446744073709551616 := by
      unfold wd
      rw [Int.mul_emod, Int.emod_emod_of_dvd _ (Int.dvd_refl _), ← sg_mod b, ← Int.mul_emod]
    have e2 := wd_sg ha
    unfold In64 at ha
    unfold wd at *
    generalize (sg a).tmod (sg b) = r at *
    generalize (sg a).tdiv (sg b) = q at *
    generalize q % 18446744073709551616 * b = p at *
    generalize q * sg b = s at *
    omega
theorem mod32_mul {x y z u : Int} (h : x % 4294967296 = y % 4294967296) (k : z % 4294967296 = u % 4294967296) : (x * z) % 4294967296 = (y * u) % 4294967296 := by
  rw [Int.mul_emod, h, k, ← Int.mul_emod]
theorem mod32_64 (x : Int) : x % 18446744073709551616 % 4294967296 = x % 4294967296 := by omega
theorem back32 {d r q s a b b' : Int} (h1 : d % 4294967296 = q % 4294967296) (h2 : r % 4294967296 = s % 4294967296) (h3 : b % 4294967296 = b' % 4294967296) (h : wd (wd (q * b') + s) % 4294967296 = a % 4294967296) :
    IntKind.u64.wrap (IntKind.u64.wrap (d * b) + r) % 4294967296 = a % 4294967296 := by
  have e := mod32_mul h1 h3
  rw [wrap_wd, wrap_wd]
  unfold wd at *
  generalize d * b = p at *
  generalize q * b' = p' at *
  omega
theorem divw_back {a b : Int} (ha : In64 a) (hb : In64 b) : IntKind.u64.wrap (IntKind.u64.wrap (dr (divZ (dr a) (dr b)) * b) + dr (remZ (dr a) (dr b))) % 4294967296 = a % 4294967296 := by
  have h := div_back (dr_in a) (dr_in b)
  rw [wrap_wd, wrap_wd] at h
  exact back32 (b' := dr b) (dr_mod _) (dr_mod _) (dr_mod b).symm (by rw [h]; exact dr_mod a)
theorem divuw_back {a b : Int} (ha : In64 a) (hb : In64 b) : IntKind.u64.wrap (IntKind.u64.wrap (dr (divuZ (lw a) (lw b)) * b) + dr (remuZ (lw a) (lw b))) % 4294967296 = a % 4294967296 := by
  have h := divu_back (lw_in a) (lw_in b)
  rw [wrap_wd, wrap_wd] at h
  exact back32 (b' := lw b) (dr_mod _) (dr_mod _) (by unfold lw; omega) (by rw [h]; unfold lw; omega)

theorem remu_less {a b : Int} (hb : In64 b) (c : ¬ b = 0) : remuZ a b < b := by
  unfold remuZ; rw [if_neg c]
  exact Int.emod_lt_of_pos a (by have := hb.1; omega)

/-- What the walk needs to know of the signed rest r of x by y (the divisor as a word: b). -/
def RestFacts (b r x y : Int) : Prop :=
  (r < 0 → x < 0) ∧ (0 < r → 0 < x) ∧ (¬ b = 0 → ¬ b = 9223372036854775808 → (y < 0 → r < -y ∧ y < r ∧ -9223372036854775808 < y) ∧ (0 ≤ y → r < y ∧ -y < r))
theorem rest_facts {a b : Int} (ha : In64 a) (hb : In64 b) : RestFacts b (wrap64 (remZ a b)) (wrap64 a) (wrap64 b) := by
  have hm := remZ_in ha hb
  rw [wrap64_sg hm, wrap64_sg ha, wrap64_sg hb]
  by_cases c : b = 0
  · have : remZ a b = a := by unfold remZ; rw [if_pos c]
    rw [this]
    exact ⟨id, id, fun h => absurd c h⟩
  · rw [sg_rem ha hb c]
    have hz : ¬ sg b = 0 := fun h => c ((sg_zero hb).1 h)
    obtain ⟨f1, f2, f3, f4⟩ := tmod_facts (sg a) (sg b) hz
    have ib := sg_in hb
    have k : ¬ b = 9223372036854775808 → -9223372036854775808 < sg b := by
      unfold In64 at hb; unfold sg; split <;> omega
    generalize (sg a).tmod (sg b) = r at *
    generalize sg a = x at *
    generalize sg b = y at *
    unfold In63 at ib
    refine ⟨by omega, by omega, fun _ h => ⟨fun _ => ⟨by omega, by omega, k h⟩, fun _ => ⟨by omega, by omega⟩⟩⟩

set_option maxHeartbeats 2000000 in
theorem rests_zero (a b r x y : Int) (HA : Hid (In64 a)) (HB0 : Hid (In64 b)) (signs : (r < 0 ∧ x < 0 ∧ ¬ 0 < r) ∨ (¬ r < 0 ∧ ¬ 0 < r) ∨ (¬ r < 0 ∧ 0 < r ∧ 0 < x)) (c : (b != 0) = false) (hr : wrap64 (remZ a b) = r) (hx : wrap64 a = x) (hy : wrap64 b = y) (w : World) :
    Calls Try.prog 8 #[.int .u64 a, .int .u64 b] w fun e w' => e = .returned (.bool true) ∧ Below w.heap.size w w' := by
  have e1 := divu_back HA.out HB0.out
  have e2 := div_back HA.out HB0.out
  have e3 := divw_back HA.out HB0.out
  have e4 := divuw_back HA.out HB0.out
  rcases signs with ⟨s1, s2, s3⟩ | ⟨s1, s2⟩ | ⟨s1, s2, s3⟩
  all_goals
    go_enter Try.func8, Try.ntmps8
    go_wp2_with fail
    refine (arAwake_any _).mono ?_
    rintro e w1 ⟨rfl, HB⟩
    go_wp2_with (first
      | (go_at_call 15; refine (div_any _ _ HA.out HB0.out _).mono ?_; rintro e w' ⟨rfl, rfl⟩)
      | (go_at_call 16; refine (divu_any _ _ HA.out HB0.out _).mono ?_; rintro e w' ⟨rfl, rfl⟩)
      | (go_at_call 14; refine (rem_any _ _ HA.out HB0.out _).mono ?_; rintro e w' ⟨rfl, rfl⟩)
      | (go_at_call 17; refine (remu_any _ _ HA.out HB0.out _).mono ?_; rintro e w' ⟨rfl, rfl⟩)
      | (go_at_call 19; refine (divw_any _ _ HA.out HB0.out _).mono ?_; rintro e w' ⟨rfl, rfl⟩)
      | (go_at_call 20; refine (remw_any _ _ HA.out HB0.out _).mono ?_; rintro e w' ⟨rfl, rfl⟩)
      | (go_at_call 21; refine (divuw_any _ _ HA.out HB0.out _).mono ?_; rintro e w' ⟨rfl, k, rfl⟩; replace HB := below_drewN HB k)
      | (go_at_call 22; refine (remuw_any _ _ HA.out HB0.out _).mono ?_; rintro e w' ⟨rfl, k, rfl⟩; replace HB := below_drewN HB k))
    go_ret
    exact ⟨rfl, by simpa using HB⟩

set_option maxHeartbeats 2000000 in
theorem rests_least (a b r x y : Int) (HA : Hid (In64 a)) (HB0 : Hid (In64 b)) (signs : (r < 0 ∧ x < 0 ∧ ¬ 0 < r) ∨ (¬ r < 0 ∧ ¬ 0 < r) ∨ (¬ r < 0 ∧ 0 < r ∧ 0 < x)) (c : (b != 0) = true) (hu : remuZ a b < b) (c2 : (b != 9223372036854775808) = false) (hr : wrap64 (remZ a b) = r) (hx : wrap64 a = x) (hy : wrap64 b = y) (w : World) :
    Calls Try.prog 8 #[.int .u64 a, .int .u64 b] w fun e w' => e = .returned (.bool true) ∧ Below w.heap.size w w' := by
  have e1 := divu_back HA.out HB0.out
  have e2 := div_back HA.out HB0.out
  have e3 := divw_back HA.out HB0.out
  have e4 := divuw_back HA.out HB0.out
  rcases signs with ⟨s1, s2, s3⟩ | ⟨s1, s2⟩ | ⟨s1, s2, s3⟩
  all_goals
    go_enter Try.func8, Try.ntmps8
    go_wp2_with fail
    refine (arAwake_any _).mono ?_
    rintro e w1 ⟨rfl, HB⟩
    go_wp2_with (first
      | (go_at_call 15; refine (div_any _ _ HA.out HB0.out _).mono ?_; rintro e w' ⟨rfl, rfl⟩)
      | (go_at_call 16; refine (divu_any _ _ HA.out HB0.out _).mono ?_; rintro e w' ⟨rfl, rfl⟩)
      | (go_at_call 14; refine (rem_any _ _ HA.out HB0.out _).mono ?_; rintro e w' ⟨rfl, rfl⟩)
      | (go_at_call 17; refine (remu_any _ _ HA.out HB0.out _).mono ?_; rintro e w' ⟨rfl, rfl⟩)
      | (go_at_call 19; refine (divw_any _ _ HA.out HB0.out _).mono ?_; rintro e w' ⟨rfl, rfl⟩)
      | (go_at_call 20; refine (remw_any _ _ HA.out HB0.out _).mono ?_; rintro e w' ⟨rfl, rfl⟩)
      | (go_at_call 21; refine (divuw_any _ _ HA.out HB0.out _).mono ?_; rintro e w' ⟨rfl, k, rfl⟩; replace HB := below_drewN HB k)
      | (go_at_call 22; refine (remuw_any _ _ HA.out HB0.out _).mono ?_; rintro e w' ⟨rfl, k, rfl⟩; replace HB := below_drewN HB k))
    go_ret
    exact ⟨rfl, by simpa using HB⟩

set_option maxHeartbeats 2000000 in
theorem rests_neg (a b r x y : Int) (HA : Hid (In64 a)) (HB0 : Hid (In64 b)) (signs : (r < 0 ∧ x < 0 ∧ ¬ 0 < r) ∨ (¬ r < 0 ∧ ¬ 0 < r) ∨ (¬ r < 0 ∧ 0 < r ∧ 0 < x)) (c : (b != 0) = true) (hu : remuZ a b < b) (c2 : (b != 9223372036854775808) = true) (y1 : y < 0) (y2 : r < -y) (y3 : y < r) (y4 : -9223372036854775808 < y) (hr : wrap64 (remZ a b) = r) (hx : wrap64 a = x) (hy : wrap64 b = y) (w : World) :
    Calls Try.prog 8 #[.int .u64 a, .int .u64 b] w fun e w' => e = .returned (.bool true) ∧ Below w.heap.size w w' := by
  have e1 := divu_back HA.out HB0.out
  have e2 := div_back HA.out HB0.out
  have e3 := divw_back HA.out HB0.out
  have e4 := divuw_back HA.out HB0.out
  rcases signs with ⟨s1, s2, s3⟩ | ⟨s1, s2⟩ | ⟨s1, s2, s3⟩
  all_goals
    go_enter Try.func8, Try.ntmps8
    go_wp2_with fail
    refine (arAwake_any _).mono ?_
    rintro e w1 ⟨rfl, HB⟩
    go_wp2_with (first
      | (go_at_call 15; refine (div_any _ _ HA.out HB0.out _).mono ?_; rintro e w' ⟨rfl, rfl⟩)
      | (go_at_call 16; refine (divu_any _ _ HA.out HB0.out _).mono ?_; rintro e w' ⟨rfl, rfl⟩)
      | (go_at_call 14; refine (rem_any _ _ HA.out HB0.out _).mono ?_; rintro e w' ⟨rfl, rfl⟩)
      | (go_at_call 17; refine (remu_any _ _ HA.out HB0.out _).mono ?_; rintro e w' ⟨rfl, rfl⟩)
      | (go_at_call 19; refine (divw_any _ _ HA.out HB0.out _).mono ?_; rintro e w' ⟨rfl, rfl⟩)
      | (go_at_call 20; refine (remw_any _ _ HA.out HB0.out _).mono ?_; rintro e w' ⟨rfl, rfl⟩)
      | (go_at_call 21; refine (divuw_any _ _ HA.out HB0.out _).mono ?_; rintro e w' ⟨rfl, k, rfl⟩; replace HB := below_drewN HB k)
      | (go_at_call 22; refine (remuw_any _ _ HA.out HB0.out _).mono ?_; rintro e w' ⟨rfl, k, rfl⟩; replace HB := below_drewN HB k))
    go_ret
    exact ⟨rfl, by simpa using HB⟩

set_option maxHeartbeats 2000000 in
theorem rests_pos (a b r x y : Int) (HA : Hid (In64 a)) (HB0 : Hid (In64 b)) (signs : (r < 0 ∧ x < 0 ∧ ¬ 0 < r) ∨ (¬ r < 0 ∧ ¬ 0 < r) ∨ (¬ r < 0 ∧ 0 < r ∧ 0 < x)) (c : (b != 0) = true) (hu : remuZ a b < b) (c2 : (b != 9223372036854775808) = true) (y1 : 0 ≤ y) (y2 : r < y) (y3 : -y < r) (y4 : y < 9223372036854775808) (hr : wrap64 (remZ a b) = r) (hx : wrap64 a = x) (hy : wrap64 b = y) (w : World) :
    Calls Try.prog 8 #[.int .u64 a, .int .u64 b] w fun e w' => e = .returned (.bool true) ∧ Below w.heap.size w w' := by
  have e1 := divu_back HA.out HB0.out
  have e2 := div_back HA.out HB0.out
  have e3 := divw_back HA.out HB0.out
  have e4 := divuw_back HA.out HB0.out
  rcases signs with ⟨s1, s2, s3⟩ | ⟨s1, s2⟩ | ⟨s1, s2, s3⟩
  all_goals
    go_enter Try.func8, Try.ntmps8
    go_wp2_with fail
    refine (arAwake_any _).mono ?_
    rintro e w1 ⟨rfl, HB⟩
    go_wp2_with (first
      | (go_at_call 15; refine (div_any _ _ HA.out HB0.out _).mono ?_; rintro e w' ⟨rfl, rfl⟩)
      | (go_at_call 16; refine (divu_any _ _ HA.out HB0.out _).mono ?_; rintro e w' ⟨rfl, rfl⟩)
      | (go_at_call 14; refine (rem_any _ _ HA.out HB0.out _).mono ?_; rintro e w' ⟨rfl, rfl⟩)
      | (go_at_call 17; refine (remu_any _ _ HA.out HB0.out _).mono ?_; rintro e w' ⟨rfl, rfl⟩)
      | (go_at_call 19; refine (divw_any _ _ HA.out HB0.out _).mono ?_; rintro e w' ⟨rfl, rfl⟩)
      | (go_at_call 20; refine (remw_any _ _ HA.out HB0.out _).mono ?_; rintro e w' ⟨rfl, rfl⟩)
      | (go_at_call 21; refine (divuw_any _ _ HA.out HB0.out _).mono ?_; rintro e w' ⟨rfl, k, rfl⟩; replace HB := below_drewN HB k)
      | (go_at_call 22; refine (remuw_any _ _ HA.out HB0.out _).mono ?_; rintro e w' ⟨rfl, k, rfl⟩; replace HB := below_drewN HB k))
    go_ret
    exact ⟨rfl, by simpa using HB⟩

theorem arithRests_walk (a b : Int) (w0 : (Lit.int .u64 a).wf = true) (w1 : (Lit.int .u64 b).wf = true) (w : World) :
    Calls Try.prog 8 #[.int .u64 a, .int .u64 b] w fun e w' => e = .returned (.bool true) ∧ Below w.heap.size w w' := by
  have ha := of_wf w0
  have hb := of_wf w1
  obtain ⟨R1, R2, R3⟩ := rest_facts ha hb
  have y63 : wrap64 b < 9223372036854775808 := by rw [wrap64_sg hb]; exact (sg_in hb).2
  by_cases c : b = 0
  · exact rests_zero a b _ _ _ (Lib.hid ha) (Lib.hid hb) (by omega) (by simpa using c) rfl rfl rfl w
  · by_cases d : b = 9223372036854775808
    · exact rests_least a b _ _ _ (Lib.hid ha) (Lib.hid hb) (by omega) (by simpa using c) (remu_less hb c) (by simpa using d) rfl rfl rfl w
    · obtain ⟨S1, S2⟩ := R3 c d
      by_cases h : wrap64 b < 0
      · obtain ⟨k1, k2, k3⟩ := S1 h
        exact rests_neg a b _ _ _ (Lib.hid ha) (Lib.hid hb) (by omega) (by simpa using c) (remu_less hb c) (by simpa using d) h k1 k2 k3 rfl rfl rfl w
      · obtain ⟨k1, k2⟩ := S2 (by omega)
        exact rests_pos a b _ _ _ (Lib.hid ha) (Lib.hid hb) (by omega) (by simpa using c) (remu_less hb c) (by simpa using d) (by omega) k1 k2 y63 rfl rfl rfl w

end Go.Proofs.Ytmbonfaeclbeaaa
