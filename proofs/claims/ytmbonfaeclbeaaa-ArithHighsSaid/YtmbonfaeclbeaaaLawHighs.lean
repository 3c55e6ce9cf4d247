/- The walk of ArithHighs: upper halves of products differ by the factors themselves, lie below each factor, and rise with a factor. -/
import Derived.Test.YtmbonfaeclbeaaaLawArith
namespace Go.Proofs.Ytmbonfaeclbeaaa
open Go.RowKit
set_option linter.unusedVariables false

theorem hi_less {a b : Int} (ha : In64 a) (hb : In64 b) (h : 0 < a) : hiZ a b < a := by
  rw [(hi_nat ha hb).1]
  have h1 : a * b < a * 18446744073709551616 := Int.mul_lt_mul_of_pos_left hb.2 h
  omega
theorem hi_rise {a b c : Int} (ha : In64 a) (hb : In64 b) (hc : In64 c) (h : b ≤ c) : hiZ a b ≤ hiZ a c := by
  rw [(hi_nat ha hb).1, (hi_nat ha hc).1]
  exact Int.ediv_le_ediv (by omega) (Int.mul_le_mul_of_nonneg_left h ha.1)
theorem hi_zero (b : Int) : hiZ 0 b = 0 := by unfold hiZ wd; rw [Int.zero_mul]; rfl

/-- What is told of the halves, where b is added back for a below 0, and a for b below 0. -/
theorem su_back {a b : Int} (ha : In64 a) (hb : In64 b) : (sg a < 0 → IntKind.u64.wrap (hiZ (sg a) b + b) = hiZ a b) ∧ (¬ sg a < 0 → hiZ (sg a) b = hiZ a b) := by
  have h := hi_su ha hb
  have i := wd_in (a * b / 18446744073709551616)
  have e : hiZ a b = wd (a * b / 18446744073709551616) := rfl
  rw [← h]
  unfold In64 at ha
  constructor
  · intro n
    have : nz a b = b := by unfold nz; unfold sg at n; split at n <;> rw [if_pos (by omega)]
    rw [this, wrap_wd]
    unfold In64 at i; rw [← e] at i; unfold wd; omega
  · intro n
    have : nz a b = 0 := by unfold nz; unfold sg at n; split at n <;> rw [if_neg (by omega)]
    rw [this, Int.sub_zero, e, wd_wd]
theorem ss_back {a b : Int} (ha : In64 a) (hb : In64 b) : (sg b < 0 → IntKind.u64.wrap (hiZ (sg a) (sg b) + a) = hiZ (sg a) b) ∧ (¬ sg b < 0 → hiZ (sg a) (sg b) = hiZ (sg a) b) := by
  have h := hi_ss ha hb
  have i := wd_in (sg a * b / 18446744073709551616)
  have e : hiZ (sg a) b = wd (sg a * b / 18446744073709551616) := rfl
  rw [← h]
  unfold In64 at hb
  constructor
  · intro n
    have : nz b a = a := by unfold nz; unfold sg at n; split at n <;> rw [if_pos (by omega)]
    rw [this, wrap_wd]
    unfold In64 at i; rw [← e] at i; unfold wd; omega
  · intro n
    have : nz b a = 0 := by unfold nz; unfold sg at n; split at n <;> rw [if_neg (by omega)]
    rw [this, Int.sub_zero, e, wd_wd]
theorem both_back {a b : Int} (ha : In64 a) (hb : In64 b) (n : sg b < 0) : IntKind.u64.wrap (IntKind.u64.wrap (hiZ (sg a) (sg b) + b) + a) = IntKind.u64.wrap (hiZ (sg a) b + b) := by
  have h := (ss_back ha hb).1 n
  rw [wrap_wd] at *
  rw [wrap_wd, wrap_wd, ← h]
  unfold wd; omega

/-- How a factor stands to the upper half. -/
def Fac (a u : Int) : Prop := ((a != 0) = false ∧ (a == 0) = true ∧ (u != 0) = false) ∨ ((a != 0) = true ∧ (a == 0) = false ∧ u < a)

set_option maxHeartbeats 4000000 in
theorem highs_nn (a b c u s h t x y : Int) (HA : Hid (In64 a)) (HB0 : Hid (In64 b)) (HC : Hid (In64 c)) (e1 : hiZ a b = u) (e4 : hiZ b a = u) (e5 : hiZ (sg b) (sg a) = h) (e6 : hiZ a c = t) (xa : wrap64 a = x) (xb : wrap64 b = y) (ra : Fac a u) (rb : Fac b u) (rc : c < b ∨ ¬ c < b ∧ u ≤ t) (xn : x < 0) (yn : y < 0) (e2 : hiZ (sg a) b = s) (e3 : hiZ (sg a) (sg b) = h) (t1 : IntKind.u64.wrap (s + b) = u) (t2 : IntKind.u64.wrap (IntKind.u64.wrap (h + b) + a) = u) (w : World) :
    Calls Try.prog 9 #[.int .u64 a, .int .u64 b, .int .u64 c] w fun e w' => e = .returned (.bool true) ∧ Below w.heap.size w w' := by
  rcases ra with ⟨a1, a2, a3⟩ | ⟨a1, a2, a3⟩ <;> rcases rb with ⟨b1, b2, b3⟩ | ⟨b1, b2, b3⟩ <;> rcases rc with c1 | ⟨c1, c2⟩
  all_goals
    go_enter Try.func9, Try.ntmps9
    go_wp2_with fail
    refine (arAwake_any _).mono ?_
    rintro e w1 ⟨rfl, HB⟩
    go_wp2_with (first
      | (go_at_call 13; refine (mulhu_any _ _ (by first | exact HA.out | exact HB0.out) (by first | exact HB0.out | exact HA.out | exact HC.out) _).mono ?_; rintro e w' ⟨rfl, rfl⟩)
      | (go_at_call 12; refine (mulhsu_any _ _ HA.out HB0.out _).mono ?_; rintro e w' ⟨rfl, rfl⟩)
      | (go_at_call 11; refine (mulh_any _ _ (by first | exact HA.out | exact HB0.out) (by first | exact HB0.out | exact HA.out) _).mono ?_; rintro e w' ⟨rfl, rfl⟩))
    go_ret
    exact ⟨rfl, HB⟩

set_option maxHeartbeats 4000000 in
theorem highs_np (a b c u s h t x y : Int) (HA : Hid (In64 a)) (HB0 : Hid (In64 b)) (HC : Hid (In64 c)) (e1 : hiZ a b = u) (e4 : hiZ b a = u) (e5 : hiZ (sg b) (sg a) = h) (e6 : hiZ a c = t) (xa : wrap64 a = x) (xb : wrap64 b = y) (ra : Fac a u) (rb : Fac b u) (rc : c < b ∨ ¬ c < b ∧ u ≤ t) (xn : x < 0) (yn : ¬ y < 0) (e2 : hiZ (sg a) b = h) (e3 : hiZ (sg a) (sg b) = h) (t1 : IntKind.u64.wrap (h + b) = u) (w : World) :
    Calls Try.prog 9 #[.int .u64 a, .int .u64 b, .int .u64 c] w fun e w' => e = .returned (.bool true) ∧ Below w.heap.size w w' := by
  rcases ra with ⟨a1, a2, a3⟩ | ⟨a1, a2, a3⟩ <;> rcases rb with ⟨b1, b2, b3⟩ | ⟨b1, b2, b3⟩ <;> rcases rc with c1 | ⟨c1, c2⟩
  all_goals
    go_enter Try.func9, Try.ntmps9
    go_wp2_with fail
    refine (arAwake_any _).mono ?_
    rintro e w1 ⟨rfl, HB⟩
    go_wp2_with (first
      | (go_at_call 13; refine (mulhu_any _ _ (by first | exact HA.out | exact HB0.out) (by first | exact HB0.out | exact HA.out | exact HC.out) _).mono ?_; rintro e w' ⟨rfl, rfl⟩)
      | (go_at_call 12; refine (mulhsu_any _ _ HA.out HB0.out _).mono ?_; rintro e w' ⟨rfl, rfl⟩)
      | (go_at_call 11; refine (mulh_any _ _ (by first | exact HA.out | exact HB0.out) (by first | exact HB0.out | exact HA.out) _).mono ?_; rintro e w' ⟨rfl, rfl⟩))
    go_ret
    exact ⟨rfl, HB⟩

set_option maxHeartbeats 4000000 in
theorem highs_pn (a b c u s h t x y : Int) (HA : Hid (In64 a)) (HB0 : Hid (In64 b)) (HC : Hid (In64 c)) (e1 : hiZ a b = u) (e4 : hiZ b a = u) (e5 : hiZ (sg b) (sg a) = h) (e6 : hiZ a c = t) (xa : wrap64 a = x) (xb : wrap64 b = y) (ra : Fac a u) (rb : Fac b u) (rc : c < b ∨ ¬ c < b ∧ u ≤ t) (xn : ¬ x < 0) (yn : y < 0) (e2 : hiZ (sg a) b = u) (e3 : hiZ (sg a) (sg b) = h) (t1 : IntKind.u64.wrap (h + a) = u) (w : World) :
    Calls Try.prog 9 #[.int .u64 a, .int .u64 b, .int .u64 c] w fun e w' => e = .returned (.bool true) ∧ Below w.heap.size w w' := by
  rcases ra with ⟨a1, a2, a3⟩ | ⟨a1, a2, a3⟩ <;> rcases rb with ⟨b1, b2, b3⟩ | ⟨b1, b2, b3⟩ <;> rcases rc with c1 | ⟨c1, c2⟩
  all_goals
    go_enter Try.func9, Try.ntmps9
    go_wp2_with fail
    refine (arAwake_any _).mono ?_
    rintro e w1 ⟨rfl, HB⟩
    go_wp2_with (first
      | (go_at_call 13; refine (mulhu_any _ _ (by first | exact HA.out | exact HB0.out) (by first | exact HB0.out | exact HA.out | exact HC.out) _).mono ?_; rintro e w' ⟨rfl, rfl⟩)
      | (go_at_call 12; refine (mulhsu_any _ _ HA.out HB0.out _).mono ?_; rintro e w' ⟨rfl, rfl⟩)
      | (go_at_call 11; refine (mulh_any _ _ (by first | exact HA.out | exact HB0.out) (by first | exact HB0.out | exact HA.out) _).mono ?_; rintro e w' ⟨rfl, rfl⟩))
    go_ret
    exact ⟨rfl, HB⟩

set_option maxHeartbeats 4000000 in
theorem highs_pp (a b c u s h t x y : Int) (HA : Hid (In64 a)) (HB0 : Hid (In64 b)) (HC : Hid (In64 c)) (e1 : hiZ a b = u) (e4 : hiZ b a = u) (e5 : hiZ (sg b) (sg a) = u) (e6 : hiZ a c = t) (xa : wrap64 a = x) (xb : wrap64 b = y) (ra : Fac a u) (rb : Fac b u) (rc : c < b ∨ ¬ c < b ∧ u ≤ t) (xn : ¬ x < 0) (yn : ¬ y < 0) (e2 : hiZ (sg a) b = u) (e3 : hiZ (sg a) (sg b) = u) (w : World) :
    Calls Try.prog 9 #[.int .u64 a, .int .u64 b, .int .u64 c] w fun e w' => e = .returned (.bool true) ∧ Below w.heap.size w w' := by
  rcases ra with ⟨a1, a2, a3⟩ | ⟨a1, a2, a3⟩ <;> rcases rb with ⟨b1, b2, b3⟩ | ⟨b1, b2, b3⟩ <;> rcases rc with c1 | ⟨c1, c2⟩
  all_goals
    go_enter Try.func9, Try.ntmps9
    go_wp2_with fail
    refine (arAwake_any _).mono ?_
    rintro e w1 ⟨rfl, HB⟩
    go_wp2_with (first
      | (go_at_call 13; refine (mulhu_any _ _ (by first | exact HA.out | exact HB0.out) (by first | exact HB0.out | exact HA.out | exact HC.out) _).mono ?_; rintro e w' ⟨rfl, rfl⟩)
      | (go_at_call 12; refine (mulhsu_any _ _ HA.out HB0.out _).mono ?_; rintro e w' ⟨rfl, rfl⟩)
      | (go_at_call 11; refine (mulh_any _ _ (by first | exact HA.out | exact HB0.out) (by first | exact HB0.out | exact HA.out) _).mono ?_; rintro e w' ⟨rfl, rfl⟩))
    go_ret
    exact ⟨rfl, HB⟩

theorem arithHighs_walk (a b c : Int) (w0 : (Lit.int .u64 a).wf = true) (w1 : (Lit.int .u64 b).wf = true) (w2 : (Lit.int .u64 c).wf = true) (w : World) :
    Calls Try.prog 9 #[.int .u64 a, .int .u64 b, .int .u64 c] w fun e w' => e = .returned (.bool true) ∧ Below w.heap.size w w' := by
  have ha := of_wf w0
  have hb := of_wf w1
  have hc := of_wf w2
  obtain ⟨A1, A2⟩ := su_back ha hb
  obtain ⟨B1, B2⟩ := ss_back ha hb
  have B3 := both_back ha hb
  have c1 := hi_comm (sg b) (sg a)
  have c2 := hi_comm b a
  have r : c < b ∨ ¬ c < b ∧ hiZ a b ≤ hiZ a c := by
    by_cases h : c < b
    · exact .inl h
    · exact .inr ⟨h, hi_rise ha hb hc (by omega)⟩
  have xa : wrap64 a = sg a := wrap64_sg ha
  have xb : wrap64 b = sg b := wrap64_sg hb
  have za : Fac a (hiZ a b) := by
    by_cases h : a = 0
    · subst h; exact .inl ⟨rfl, rfl, by rw [hi_zero b]; rfl⟩
    · exact .inr ⟨by simpa using h, by simpa using h, hi_less ha hb (by have := ha.1; omega)⟩
  have zb : Fac b (hiZ a b) := by
    by_cases h : b = 0
    · subst h; exact .inl ⟨rfl, rfl, by rw [hi_comm, hi_zero a]; rfl⟩
    · exact .inr ⟨by simpa using h, by simpa using h, by rw [hi_comm]; exact hi_less hb ha (by have := hb.1; omega)⟩
  by_cases n : sg a < 0 <;> by_cases m : sg b < 0
  · exact highs_nn a b c _ _ _ _ _ _ (Lib.hid ha) (Lib.hid hb) (Lib.hid hc) rfl c2 c1 rfl xa xb za zb r n m rfl rfl (A1 n) ((B3 m).trans (A1 n)) w
  · exact highs_np a b c _ 0 _ _ _ _ (Lib.hid ha) (Lib.hid hb) (Lib.hid hc) rfl c2 c1 rfl xa xb za zb r n m (B2 m).symm rfl (by rw [B2 m]; exact A1 n) w
  · exact highs_pn a b c _ 0 _ _ _ _ (Lib.hid ha) (Lib.hid hb) (Lib.hid hc) rfl c2 c1 rfl xa xb za zb r n m (A2 n) rfl ((B1 m).trans (A2 n)) w
  · exact highs_pp a b c _ 0 0 _ _ _ (Lib.hid ha) (Lib.hid hb) (Lib.hid hc) rfl c2 (c1.trans ((B2 m).trans (A2 n))) rfl xa xb za zb r n m (A2 n) ((B2 m).trans (A2 n)) w

end Go.Proofs.Ytmbonfaeclbeaaa
